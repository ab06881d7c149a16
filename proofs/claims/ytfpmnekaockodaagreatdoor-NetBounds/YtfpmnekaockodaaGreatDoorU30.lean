/- Laws for the proof. -/
import Derived.ScopeJumps
import Derived.Laws.AppendOwn
import Derived.Test.YtfpmnekaockodaaGreatDoorU29
namespace Go.Proofs.YtfpmnekaockodaaGreatDoor
open Go.RowKit Go.Sort
set_option linter.all false
set_option maxRecDepth 4000
set_option maxHeartbeats 8000000
variable {o l z:Int}{ss:List ByteArray}{g s k B:Nat}{v0 v1 v2 v3:Value}{w w':World}
theorem ni(xs a:List Nat):st xs++st a=st (xs++a):=by
 apply ByteArray.ext;unfold st;rw[ByteArray.data_append];simp
theorem XF(s:ByteArray)(z:Nat):s++st (List.replicate (z-s.size) 0)=st (H4 z (tx s)):=by
 conv=>lhs;rw[<-IG s]
 rw[ni,IG,H4,AU]
theorem gG(s:ByteArray)(Z:Nat)(w:World)(u:s.size<=Z)(q:Z<=64):
  Calls Tryz.prog 165 #[.string s,.int .i64 (Z:Int)] w fun e w'=>e=.returned (.string (st (H4 Z (tx s))))/\Below w.heap.size w w':=by
 have h:=Ab (XF s Z);have i:=Ab (show(st (List.replicate (Z-s.size) 0)).size=Z-s.size by rw[Dw,List.length_replicate]);have b:(Z:Int)-(s.size:Int)=((Z-s.size:Nat):Int):=by omega
 have j:=Ab (fun wx=>ed (Z-s.size) wx (by omega));have r:Z-s.size<=64:=by omega
 generalize Z-s.size=d at*;generalize st (List.replicate d 0)=t at*;have p:t.size<=64:=by have:=Aa i;omega
 have c:(9223372036854775807<s.size+t.size)=False:=by simp;omega
 have f:=Ab (fun wx=>GS (s++t) wx (by rw[ByteArray.size_append];omega));go_enter Tryz.func165,Tryz.ntmps165;go_wp2_with (first|(go_at_call 189;refine(Aa j _).mono ?_;rintro e w1 ⟨rfl,m⟩)|(go_at_call 33;refine(Aa f _).mono ?_;rintro e w2 ⟨rfl,a⟩));go_ret;exact⟨YZ (Aa h),Ad m a⟩
theorem dY{P:Program}{a:Act}{Q:Exit->Act->World->Prop}{c X:Code}(l:Nat)(J:Act->World->Prop)(μ:Act->World->Nat)(f:findLabel c l=some (Code.skip.seq X))
  (b:∀a w,J a w->X.wp P (Exit.jump l (fun d w'=>J d w'/\μ d w'<μ a w) Q) a w)
  (first:(∀a w,J a w->X.wp P (Exit.jump l J Q) a w)->c.wp P (Exit.jump l J Q) a w):(Code.scope c).wp P Q a w:=
 wp_scope_jumps l J μ f (first fun a w h=>wp_mono (b a w h) fun e a w h=>by
  cases e with
  |goto i=>exact⟨h.1,h.2.1⟩
  |_=>exact h) fun a w h=>wp_seq (wp_skip (b a w h))
def bA:Value->Nat| .string s=>s.size|_=>0
theorem oP(xs:List Nat)(Z i n:Nat)(h:n=min Z (xs.drop (i*Z)).length):
  ((xs.drop (i*Z)).drop 0).take (n-0)=(xs.drop (i*Z)).take Z/\((xs.drop (i*Z)).drop n).take ((xs.drop (i*Z)).length-n)=xs.drop ((i+1)*Z):=by
 have b:=List.length_drop (i:=i*Z) (l:=xs);constructor
 ·rw[List.drop_zero,Nat.sub_zero]
  by_cases a:Z<=(xs.drop (i*Z)).length
  ·rw[show n=Z by omega]
  ·rw[List.take_of_length_le (by omega),List.take_of_length_le (by omega)]
 ·rw[List.take_of_length_le (by rw[List.length_drop];omega),List.drop_drop,Nat.add_mul,Nat.one_mul]
  by_cases a:Z<=(xs.drop (i*Z)).length
  ·rw[show n=Z by omega]
  ·rw[List.drop_eq_nil_of_le (by omega),List.drop_eq_nil_of_le (by omega)]
def F8 (s : ByteArray) (Z k : Nat) (w : World) (I : Act) (w' : World) : Prop := ∃ (i : Nat) (t : ByteArray) (b : Option Addr) (c : Nat) (u8 u9 a d e f h j m p q r u v x y A C D E H : Value),
      I = { tmps := #[.string t, .int .i64 (Z : Int), .int .i64 (k : Int), undef, undef, undef, .slice none 0 0, .slice b i c, u8, u9, a, d, e, f, h, j, m, p, q, r, u, v, x, y, A, C, D, E, H], defers := [] }
      /\ i < k /\ Hid (tx t = (tx s).drop (i * Z)) /\ Hid (Ar w' w.heap.size (.slice b i c) (Bw (tx s) Z i)) /\ Hid (Below w.heap.size w w')
theorem F8.mk(s:ByteArray)(Z k:Nat)(w:World){w':World}(i:Nat){t:ByteArray}{b:Option Addr}{c:Nat}{u8 u9 a d e f h j m p q r u v x y A C D E H:Value}(L:i<k)(K:Hid (tx t=(tx s).drop (i*Z)))
  (J:Hid (Ar w' w.heap.size (.slice b i c) (Bw (tx s) Z i))) (I:Hid (Below w.heap.size w w')):
  F8 s Z k w {tmps:=#[.string t,.int .i64 (Z:Int),.int .i64 (k:Int),undef,undef,undef,.slice none 0 0,.slice b i c,u8,u9,a,d,e,f,h,j,m,p,q,r,u,v,x,y,A,C,D,E,H],defers:=[]} w':=
 ⟨i,t,b,c,u8,u9,a,d,e,f,h,j,m,p,q,r,u,v,x,y,A,C,D,E,H,rfl,L,K,J,I⟩
theorem fl(x:ByteArray):x.toList.isEmpty=(tx x).isEmpty:=by
 rw[ByteArray.toList_eq];unfold tx;simp
theorem rG(s:ByteArray)(Z k:Nat)(w:World)(ac:1<=Z)(ad:Z<=64)(hk:kc s.size Z=k)(ak:k<=128):
  Calls Tryz.prog 138 #[.string s,.int .i64 (Z:Int),.int .i64 (k:Int)] w fun e w'=> ∃v,e=.returned v/\Ar w' w.heap.size v (Bw (tx s) Z k)/\Below w.heap.size w w':=by
 obtain⟨i0,W,ab,af,ae⟩:=info_parts Mc;obtain⟨wm,am,u,V⟩:=run_make_own (P:=Tryz.prog) w w.heap.size 66 9 i0 (.string ByteArray.empty) 1 Tryz.underlying66 W ab af .i64 .i64 k (by rw[ae];omega) (by unfold maxLen;omega) (Nat.le_refl _);have ai:Hid (Ar wm w.heap.size (.slice (some ⟨w.heap.size,0,none⟩) 0 k) (Bw (tx s) Z 0)):=Ab u;have ag:=Ab ((Below.refl w.heap.size w).grown V (Nat.le_refl _) (fun _ h=>by cases h));have N:=Ab (JY s.size Z);have x:=Ab (Kv s.size Z ac);have O:=Ab (fun j J r=>Pp s.size Z j ac J r);rw[hk]at N x O;have R:=Ab (AU s);have ap:=Ab (Ck s);have Y:=IG s;have au:s.size<=8192:=by
  have J:=Aa x;have r:k*Z<=128*64:=Nat.mul_le_mul ak ad;omega
 have HS:=Ab Y;clear u V W ab af ae hk Y;go_enter Tryz.func138,Tryz.ntmps138;go_wp2;refine dY 0 (F8 s Z k w) (fun a' _=>bA (a'.tmps.getD 0 undef)) rfl ?_ ?_
 ·rintro a' w' ⟨i,t,b,c,u8,u9,aw,ax,ay,az,a0,a1,a2,a3,a4,a5,a6,a7,a8,a9,ba,bb,bc,bd,bf,rfl,hi,I,HO,HB⟩
  have av:t.size<=8192:=by
   rw[<-AU,Aa I,List.length_drop,Aa R];omega
  have E:t.size=((tx s).drop (i*Z)).length:=by rw[<-AU,Aa I]
  have ao:=Ab E;have M:=Jc Z t.size;obtain⟨n,hn⟩:∃n,n=min Z t.size:=⟨_,rfl⟩;rw[<-hn]at M;have al:n<=Z:=by omega
  have aq:n<=t.size:=by omega
  have HN:=Ab hn;obtain⟨q,A⟩:=oP (tx s) Z i n (by rw[<-E];exact hn);rw[<-Aa I,<-Ex]at q;rw[<-Aa I,AU,<-Ex]at A;have an:=Ab q;have d:=Ab A;have aa:(t.extract 0 n).size=n:=by rw[ByteArray.size_extract];omega
  have H:=Ab (fun wx=>gG (t.extract 0 n) Z wx (by rw[aa];exact al) ad);rw[q]at H;rw[Aa I]at H;change Hid (∀wx,Calls Tryz.prog _ _ wx fun e w'=>e=.returned (.string (st (blk (tx s) Z i)))/\_)at H;have HQ:=Ab (NH (tx s) Z i);have aj:=Ab (IX (tx s) Z i);clear hn E q A aa;have ar:=(Aa HB).size;go_wp2_with (first|(go_at_call 165;refine(Aa H _).mono ?_;rintro e w1 ⟨rfl,f⟩)|(at_builtin;refine RJ rfl _ _ rfl w.heap.size (.slice b i c) _ _ rfl rfl ((Aa HO).below f) (by have:=f.size;omega) (by rw[Aa aj];omega) ?_));intro v2 w2 a y;rw[<-Aa HQ]at a;obtain⟨b2,c2,rfl, -⟩:=a.texts;rw[IX]at a⊢;have Q:=Ab a;have L:=Ab ((Ad (Aa HB) f).trans y);have S:=fl (t.extract n t.size);have m:=Ab (Aa d);by_cases hl:(i+1)*Z<s.size
  ·have C:i+1<k:=by
    rcases Nat.lt_or_ge (i+1) k with h|h
    ·exact h
    ·have J:=Nat.mul_le_mul_right Z h
     have r:=Aa x;omega
   have p:((tx s).drop ((i+1)*Z)).isEmpty=false:=by
    rw[List.isEmpty_eq_false_iff];intro h;have r:=congrArg List.length h;rw[List.length_drop,Aa R]at r;simp at r;omega
   have X:(t.extract n t.size).size<t.size:=by
    have J:=AU (t.extract n t.size);rw[Aa d,List.length_drop,Aa R]at J;have r:=AU t;rw[Aa I,List.length_drop,Aa R]at r;rw[Nat.add_mul]at J hl;omega
   rw[Aa d,p]at S;have ah:=Ab X;clear a f y HO HB H p X hl m;go_wp2;go_step3;exact⟨rfl,F8.mk s Z k w (i+1) C d Q L,Aa ah⟩
  ·have C:i+1=k:=by
    have:=Aa O (i+1) (by omega) (by omega);omega
   have p:((tx s).drop ((i+1)*Z)).isEmpty=true:=by
    rw[List.isEmpty_iff];apply List.drop_eq_nil_of_le;rw[Aa R];omega
   rw[Aa d,p]at S;subst C;clear a f y HO HB H p hl m;go_wp2;simp only[Exit.jump];go_ret;exact⟨_,rfl,Aa Q,Aa L⟩
 ·intro D
  go_wp2;go_step3;rename_i K hK;exact hK _ _ (D _ _ (F8.mk s Z k w 0 (Aa N) (Ab (by simp)) ai ag))
theorem ng(s:ByteArray)(Z:Nat)(w:World)(b:1<=Z)(c:Z<=64)(a:kc s.size Z<=128):
  Calls Tryz.prog 99 #[.string s,.int .i64 (Z:Int)] w fun e w'=> ∃v,e=.returned (.tuple #[v,.int .i64 0])/\Ar w' w.heap.size v (Bw (tx s) Z (kc s.size Z))/\Below w.heap.size w w':=by
 have q:s.size<=8192:=by
  have m:=Kv s.size Z b;have p:kc s.size Z*Z<=128*64:=Nat.mul_le_mul a c;omega
 have hp:=Wi (s.size:Int) (Z:Int) w (by omega);rw[(MY b c a).1,(MY b c a).2]at hp;have f:=Ab hp;have d:=Ab (rG s Z (kc s.size Z) w b c rfl a);clear hp;generalize kc s.size Z=k at*;go_enter Tryz.func99,Tryz.ntmps99;go_wp2_with (first|(go_at_call 25;refine(Aa f).mono ?_;rintro e w1 ⟨rfl,j⟩;obtain rfl:=j.symm)|(go_at_call 138;refine(Aa d).mono ?_;rintro e w2 ⟨v,rfl,i,h⟩));go_ret2;exact⟨_,rfl,i,h⟩
def Bn(w:World)(g:Nat)(o l z:Int)(s:Nat)(ss:List ByteArray):Prop:=
 ∃a c,(w.cell? ⟨g,0,none⟩=some (.int .i64 o)/\w.cell? ⟨g,1,none⟩=some (.int .i64 l)/\w.cell? ⟨g,2,none⟩=some (.int .i64 z)/\w.cell? ⟨g,3,none⟩=some (.slice a ss.length c)/\w.cell? ⟨g,4,none⟩=some (.int .i64 (s:Int)))/\As w a ss.length ss
theorem Bn.below(h:Bn w g o l z s ss)(d:Below w.heap.size w w'):Bn w' g o l z s ss:=by
 obtain⟨a,c,⟨b,f,i,j,m⟩,ht⟩:=h;have e:∀o,w'.cell? ⟨g,o,none⟩=w.cell? ⟨g,o,none⟩:=fun o=>d.cell (show g<w.heap.size from World.block_lt_of_cell? w ⟨g,0,none⟩ b);exact⟨a,c,⟨(e _).trans b,(e _).trans f,(e _).trans i,(e _).trans j,(e _).trans m⟩,ht.below d⟩
theorem Bn.kept{T:TypeId}{v:Option Addr}{H x:Nat}{i:Int}(h:Bn w g o l z s ss)(p:w.grownBy w' (some k))(m:AW T w k (.slice v H x) (.int .i64 i)):Bn w' g o l z s ss:=by
 obtain⟨a,c,⟨d,y,A,C,D⟩,E,ht⟩:=h;have f:g≠k:=by
  rintro rfl;rw[m.at0]at d;simp at d
 refine⟨a,c,⟨p.cell d (fun e=>f (Option.some.inj e)),p.cell y (fun e=>f (Option.some.inj e)),p.cell A (fun e=>f (Option.some.inj e)),p.cell C (fun e=>f (Option.some.inj e)),p.cell D (fun e=>f (Option.some.inj e))⟩,E,?_⟩;rcases ht with d|⟨b,off,rfl,r⟩
 ·exact .inl d
 ·refine .inr ⟨b,off,rfl,fun j u=>p.cell (r j u) (fun e=>?_)⟩
  have e:b=k:=Option.some.inj e;subst e;have d:=r j u;unfold AW at m;rw[cell_of_row w b _ _ _ _ m]at d
  match off+j,d with
  |0,d=>simp at d
  |1,d=>simp at d
  |q+2,d=>simp at d
def Cc(w:World)(g:Nat)(v0 v1 v2 v3:Value):Prop:=w.heap[g]? =some (.cells #[v0,v1,v2,v3] 143 (0,0))
theorem Zy(w:World)(v0 v1 v2 v3:Value):Cc (w.alloc (.cells #[v0,v1,v2,v3] 143)) w.heap.size v0 v1 v2 v3:=by
 show(w.heap.push _)[w.heap.size]? =_;simp
theorem Cc.lt(h:Cc w g v0 v1 v2 v3):g<w.heap.size:=(Array.getElem?_eq_some_iff.1 h).1
theorem Cc.below(h:Cc w g v0 v1 v2 v3)(a:Below w.heap.size w w'):Cc w' g v0 v1 v2 v3:=(a.block g h.lt).trans h
theorem Cc.cells(h:Cc w g v0 v1 v2 v3):w.cell? ⟨g,0,none⟩=some v0/\w.cell? ⟨g,1,none⟩=some v1/\w.cell? ⟨g,2,none⟩=some v2/\w.cell? ⟨g,3,none⟩=some v3:=by
 unfold Cc at h;refine⟨?_,?_,?_,?_⟩<;>rw[cell_of_row w g _ _ _ _ h]<;>rfl
theorem Cc.frz(h:Cc w g v0 v1 v2 v3)(i:Nat):w.frozen? ⟨g,i,none⟩=false:=by
 unfold Cc at h;simp[World.frozen?,h]
def set4(w:World)(g:Nat)(u0 u1 u2 u3:Value):World:=(((w.setCell ⟨g,0,none⟩ u0).setCell ⟨g,1,none⟩ u1).setCell ⟨g,2,none⟩ u2).setCell ⟨g,3,none⟩ u3
theorem Cc.set0(h:Cc w g v0 v1 v2 v3)(u:Value):Cc (w.setCell ⟨g,0,none⟩ u) g u v1 v2 v3:=heap_setCell_same w g 0 _ _ u h
theorem Cc.set1(h:Cc w g v0 v1 v2 v3)(u:Value):Cc (w.setCell ⟨g,1,none⟩ u) g v0 u v2 v3:=heap_setCell_same w g 1 _ _ u h
theorem Cc.set2(h:Cc w g v0 v1 v2 v3)(u:Value):Cc (w.setCell ⟨g,2,none⟩ u) g v0 v1 u v3:=heap_setCell_same w g 2 _ _ u h
theorem Cc.set3(h:Cc w g v0 v1 v2 v3)(u:Value):Cc (w.setCell ⟨g,3,none⟩ u) g v0 v1 v2 u:=heap_setCell_same w g 3 _ _ u h
theorem Cc.sets(h:Cc w g v0 v1 v2 v3)(u0 u1 u2 u3:Value):Cc (set4 w g u0 u1 u2 u3) g u0 u1 u2 u3:=(((h.set0 u0).set1 u1).set2 u2).set3 u3
theorem aF{a:World}(h:Below B a w){g:Nat}(b:B<=g)(u0 u1 u2 u3:Value):Below B a (set4 w g u0 u1 u2 u3):=
 (((h.setCell b u0).setCell b u1).setCell b u2).setCell b u3
theorem sD(w:World)(g:Nat)(u0 u1 u2 u3:Value):w.grownBy (set4 w g u0 u1 u2 u3) (some g):=
 BD (BD (BD (BF _ _ _ _) (BF _ _ _ _) (.inl rfl)) (BF _ _ _ _) (.inl rfl)) (BF _ _ _ _) (.inl rfl)
theorem Ar.kept{v:Value}(h:Ar w B v ss)(i:w.grownBy w' (some k))(j:k<B):Ar w' B v ss:=by
 refine⟨h.1,?_⟩;rcases h.2 with c|⟨g,cap,b,d,f,a,r⟩
 ·exact .inl c
 ·exact .inr ⟨g,cap,b,d,f,(i.block g (Array.getElem?_eq_some_iff.1 a).1 (fun e=>by have:=Option.some.inj e;omega)).trans a,r⟩
theorem Ar.atB{a:Option Addr}{n c:Nat}(h:Ar w B (.slice a n c) ss):As w a n ss:=by
 obtain⟨d,c1,e,b⟩:=h.texts;simp only[Value.slice.injEq]at e;obtain⟨rfl,rfl,rfl⟩:=e;exact b
theorem eu{tmps:Array Value}{W:World}{x:Int}{u0 u1 u2 u3:Value}(c:tmps.getD 6 undef=.pointer (some ⟨g,0,none⟩))(d:tmps.getD 7 undef=.int .i64 x)(e:Cc W g u0 u1 u2 u3):
  (results Tryz.f69 tmps).run Tryz.prog W=.ok (.tuple #[.agg #[u0,u1,u2,u3],.int .i64 x]) W:=by
 obtain⟨f,h,i,j⟩:=e.cells;have a:tmps[6]?.getD undef=.pointer (some ⟨g,0,none⟩):=by simpa using c
 have b:tmps[7]?.getD undef=.int .i64 x:=by simpa using d
 simp[results,Tryz.results69,go_sem,a,b,f,h,i,j]
theorem om(o:Int)(s:ByteArray)(Z:Nat)(w:World)(j:1<=Z)(m:Z<=64)(i:kc s.size Z<=128):
  Calls Tryz.prog 69 #[.int .i64 o,.string s,.int .i64 (Z:Int)] w fun e w'=> ∃a c,e=.returned (.tuple #[.agg #[.int .i64 o,.int .i64 (s.size:Int),.int .i64 (Z:Int),.slice a (kc s.size Z) c],.int .i64 0])/\Ar w' w.heap.size (.slice a (kc s.size Z) c) (Bw (tx s) Z (kc s.size Z))/\Below w.heap.size w w':=by
 have d:=IX (tx s) Z (kc s.size Z);have u:=Ab (Zy w (.int .i64 0) (.int .i64 0) (.int .i64 0) (.slice none 0 0));have r:=Ab (ng s Z (w.alloc (.cells #[.int .i64 0,.int .i64 0,.int .i64 0,.slice none 0 0] 143)) j m i);have p:=Ab ((Below.refl _ w).alloc (Nat.le_refl _) (.cells #[.int .i64 0,.int .i64 0,.int .i64 0,.slice none 0 0] 143));generalize kc s.size Z=k at*;generalize Bw (tx s) Z k=ss at*;go_enter Tryz.func69,Tryz.ntmps69;go_wp2_with fail;refine(Aa r).mono ?_;rintro e w1 ⟨v,rfl,f,h⟩;obtain⟨a,c,rfl,ht⟩:=f.texts;rw[d]at f ht⊢;have b:=(Aa u).below h;have B1:=Ab (Ad (Aa p) h);have q:=Ab f;have x:=Ab b;obtain⟨y,A,C,D⟩:=b.cells;have f0:=b.frz 0;have f1:=b.frz 1;have f2:=b.frz 2;have f3:=b.frz 3;clear ht f h d b;go_wp2
 exact bodyPost_ret (eu rfl rfl ((Aa x).sets (.int .i64 o) (.int .i64 (s.size:Int)) (.int .i64 (Z:Int)) (.slice a k c))) rfl
  ⟨a,c,rfl,((Aa q).kept (sD w1 w.heap.size _ _ _ _) (by rw[Bc];omega)).mono (by rw[Bc];omega),aF (Aa B1) (Nat.le_refl _) _ _ _ _⟩
structure BV(w:World)(g B:Nat)(v:Value)(o l z:Int)(s:Nat)(ss:List ByteArray):Prop where
 blk:BkA 147 w g [.int .i64 o,.int .i64 l,.int .i64 z,v,.int .i64 (s:Int)]
 lo:B<=g
 own:Ar w B v ss
theorem BV.src{v:Value}(h:BV w g B v o l z s ss):Bn w g o l z s ss:=by
 obtain⟨a,c,rfl,ht⟩:=h.own.texts;exact⟨a,c,⟨h.blk.at 0 rfl,h.blk.at 1 rfl,h.blk.at 2 rfl,h.blk.at 3 rfl,h.blk.at 4 rfl⟩,ht⟩
theorem Y9{c:Nat}{a:Option Addr}(b:B<=w.heap.size)(h:Ar w B (.slice a k c) ss)(o l z:Int)(s:Nat)(ob:Obj):
  BV ((w.alloc ob).alloc (.cells #[.int .i64 o,.int .i64 l,.int .i64 z,.slice a k c,.int .i64 (s:Int)] 147)) (w.heap.size+1) B (.slice a k c) o l z s ss:=by
 rw[<-Bc w ob];exact⟨AN 147 (w.alloc ob) _,by rw[Bc];omega,(h.below ((Below.refl _ _).alloc (Nat.le_refl _) _)).below ((Below.refl _ _).alloc (Nat.le_refl _) _)⟩
theorem Zu(O:Nat)(s:ByteArray)(Z Q:Nat)(w:World)(u:O<=4294967295)(f:1<=Z)(h:Z<=64)(d:kc s.size Z<=128):
  Calls Tryz.prog 39 #[.int .i64 (O:Int),.string s,.int .i64 (Z:Int),.int .i64 (Q:Int)] w fun e w'=> ∃g v,e=.returned (.tuple #[.pointer (some ⟨g,0,none⟩),.int .i64 0])/\BV w' g w.heap.size v (O:Int) (s.size:Int) (Z:Int) (min Q (kc s.size Z)) (Bw (tx s) Z (kc s.size Z))/\Below w.heap.size w w':=by
 have q:=Ab (om (O:Int) s Z w f h d);generalize kc s.size Z=k at*;have m:=Jc Q k;generalize Bw (tx s) Z k=ss at*;generalize min Q k=M at*;go_enter Tryz.func39,Tryz.ntmps39;go_wp2_with (go_at_call 69;refine(Aa q).mono ?_;rintro e w1 ⟨a,c,rfl,ht,j⟩;have p:=Ab j;have r:=Ab ht;clear j ht);go_ret2;have b:=Aa p;have i:=b.alloc b.size (.cells #[.int .i64 (O:Int),.int .i64 (s.size:Int),.int .i64 (Z:Int),.slice a k c] 143);exact⟨_,_,rfl,Y9 b.size (Aa r) _ _ _ _ _,i.alloc i.size _⟩
theorem aQ(g:Nat)(o l z:Int)(s:Nat)(ss:List ByteArray)(w:World)(h:Bn w g o l z s ss):
  Calls Tryz.prog 192 #[.pointer (some ⟨g,0,none⟩)] w fun e w'=>e=.returned (.int .i64 (ss.length:Int))/\w'=w:=by
 obtain⟨a,c,⟨b,d,f,j,i⟩,ht⟩:=h;clear ht b d f i;generalize ss.length=n at*;go_enter Tryz.func192,Tryz.ntmps192;go_wp2;go_ret;exact⟨rfl,rfl⟩
variable {o:Int}{cs:List Value}{B sz n B':Nat}{T:TypeId}{w w':World}
def kdB(w:World)(j:Nat):Nat:=match w.heap[j]? with
 |some (.cells _ T _)=>T+2
 |some (.chan _ _ _ _ _ _)=>1
 |_=>0
theorem Ej{j:Nat}{a:Array Value}{b:Nat×Nat}(h:w.heap[j]? =some (.cells a T b)):kdB w j=T+2:=by unfold kdB;rw[h]
theorem BkA.kd{g:Nat}(h:BkA T w g cs):kdB w g=T+2:=Ej h
theorem Bu{v:Value}(h:w.ownsRow B T sz v n cs){j:Nat}(a:v.ownBlock=some j):kdB w j=T+2:=by
 rcases h.2 with⟨rfl,_⟩|⟨g,cap,b,rfl,_,c,_⟩
 ·cases a
 ·simp only[Value.ownBlock,Option.some.injEq]at a
  exact Ej (a▸c)
theorem EW{v:Value}(h:w.ownsRow B T sz v n cs){j:Nat}(a:v.ownBlock=some j):B<=j/\j<w.heap.size:=by
 rcases h.2 with⟨rfl,_⟩|⟨g,cap,b,rfl,c,d,_⟩
 ·cases a
 ·simp only[Value.ownBlock,Option.some.injEq]at a
  exact⟨a▸c,a▸(Array.getElem?_eq_some_iff.1 d).1⟩
theorem CO{F:Nat->Prop}{v:Value}(h:w.ownsRow B T sz v n cs)(ht:Tu F w w')(e:∀j,v.ownBlock=some j->¬F j):w'.ownsRow B T sz v n cs:=by
 refine⟨h.1,?_⟩;rcases h.2 with d|⟨g,cap,b,c,f,a,r⟩
 ·exact .inl d
 ·exact .inr ⟨g,cap,b,c,f,(ht.block g (Array.getElem?_eq_some_iff.1 a).1 (e g (by rw[c];rfl))).trans a,r⟩
theorem Au.kd{g gb gq c lo:Nat}{M q a:Int}{L:List ByteArray}(h:Au w g gb gq c M q a L lo):∀j,lkF g gb gq c j->kdB w j=199+2\/kdB w j=239+2\/kdB w j=234+2\/kdB w j=1:=fun j d=>by
 rcases d with rfl|rfl|rfl|rfl
 ·exact .inl h.blk.kd
 ·exact .inr (.inl h.bt.blk.kd)
 ·exact .inr (.inr (.inl h.qu.blk.kd))
 ·obtain⟨s,r,b⟩:=h.qu.chn
  exact .inr (.inr (.inr (by unfold kdB;rw[b])))
theorem AP.kd{g b m N:Nat}{L:List Nat}(h:AP w g b m N L):∀j,Fe g b j->kdB w j=193+2\/kdB w j=0:=fun j e=>by
 obtain⟨nx,c,D,_,d,i,_⟩:=h.it;rcases e with rfl|rfl
 ·exact .inl d.kd
 ·obtain⟨c,a,f,_⟩:=i
  exact .inr (by unfold kdB;rw[f])
theorem Aq.kd{g gb m:Nat}{t i:Int}{v:Value}{ps:List PKV}(h:Aq w g gb B m t i v ps):∀j,EP g gb v j->kdB w j=169+2\/kdB w j=237+2\/kdB w j=75+2:=fun j a=>by
 rcases a with rfl|rfl|a
 ·exact .inl h.blk.kd
 ·exact .inr (.inl h.buf.blk.kd)
 ·exact .inr (.inr (Bu h.buf.own a))
theorem An.kd{g:Nat}{M:Int}{s:DS}{gs:Nat}{v:Value}{rs:List RV}(h:An w g B M s gs v rs):∀j,CH g gs v j->kdB w j=174+2\/kdB w j=225+2\/kdB w j=73+2:=fun j a=>by
 rcases a with rfl|a
 ·exact .inl h.blk.kd
 ·cases b:s.bg
  ·obtain⟨_,rfl,rfl⟩:=h.fresh b
   rcases a with rfl|a
   ·exact .inl h.blk.kd
   ·cases a
  ·rcases a with rfl|a
   ·exact .inr (.inl (Ej (h.begun b).1.blk))
   ·exact .inr (.inr (Bu (h.begun b).1.own a))
theorem An.tu{F:Nat->Prop}{g:Nat}{M:Int}{s:DS}{gs:Nat}{v:Value}{rs:List RV}(h:An w g B M s gs v rs)(ht:Tu F w w')(b:∀j,CH g gs v j->¬F j)(d:∀j a,w.heap[j]? =some (.cells a 265 (0,0))->¬F j):An w' g B M s gs v rs:=
 ⟨h.blk.tu ht (b g (.inl rfl)),h.lo,fun e=>⟨(h.begun e).1.tu ht (fun j c=>b j (.inr c)) d,(h.begun e).2⟩,h.fresh,h.co⟩
def Qw(g:Nat)(v:Value)(j:Nat):Prop:=j=g\/v.ownBlock=some j
theorem BV.kd{g:Nat}{v:Value}{l z:Int}{s:Nat}{ss:List ByteArray}(h:BV w g B v o l z s ss):∀j,Qw g v j->kdB w j=147+2\/kdB w j=9+2:=fun j a=>by
 rcases a with rfl|a
 ·exact .inl h.blk.kd
 ·exact .inr (Bu h.own a)
theorem BV.tu{F:Nat->Prop}{g:Nat}{v:Value}{l z:Int}{s:Nat}{ss:List ByteArray}(h:BV w g B v o l z s ss)(ht:Tu F w w')(a:∀j,Qw g v j->¬F j):BV w' g B v o l z s ss:=
 ⟨h.blk.tu ht (a g (.inl rfl)),h.lo,CO h.own ht fun j b=>a j (.inr b)⟩
structure AJ where
 g:Nat
 gb:Nat
 gq:Nat
 c:Nat
 lv:Int
 L:List ByteArray
 lo:Nat
def AJ.F(l:AJ)(j:Nat):Prop:=lkF l.g l.gb l.gq l.c j
def AJ.At(w:World)(M q:Int)(l:AJ):Prop:=Au w l.g l.gb l.gq l.c M q l.lv l.L l.lo
def AJ.dflt:AJ:=⟨0,0,0,0,0,[],0⟩
def E2(ls:List AJ):List Value:=ls.map fun l=>.pointer (some ⟨l.g,0,none⟩)
theorem gZ(ls:List AJ)(i:Nat)(h:i<ls.length):(E2 ls)[i]? =some (.pointer (some ⟨(ls.getD i .dflt).g,0,none⟩)):=by
 simp[E2,List.getElem?_eq_getElem h,List.getD_eq_getElem?_getD]
def Bm(w:World)(B:Nat)(v:Value)(ls:List AJ):Prop:=w.ownsRow B 150 1 v ls.length (E2 ls)
theorem Bm.nil(w:World)(B:Nat):Bm w B (.slice none 0 0) []:=World.ownsRow_nil _ _ _ _
theorem Bm.at{v:Value}{ls:List AJ}(h:Bm w B v ls)(d:0<ls.length):∃g cap,v=.slice (some ⟨g,0,none⟩) ls.length cap/\∀i,i<ls.length->w.cell? ⟨g,i,none⟩=some (.pointer (some ⟨(ls.getD i .dflt).g,0,none⟩)):=by
 have a:w.ownsRow B 150 1 v ls.length (E2 ls):=h;rcases h.2 with⟨rfl,f⟩|⟨g,cap,b,rfl,j,m,d,p,e,ht⟩
 ·omega
 ·refine⟨g,cap,rfl,fun i c=>?_⟩
  rw[a.cellAt i (by omega),gZ ls i c]
theorem Bm.len{v:Value}{ls:List AJ}(h:Bm w B v ls):∃a c,v=.slice a ls.length c:=by
 rcases h.2 with⟨rfl,d⟩|⟨g,cap,b,rfl,_⟩
 ·exact⟨none,0,by rw[d]⟩
 ·exact⟨_,_,rfl⟩
structure Gc where
 g:Nat
 gb:Nat
 i:Int
 v:Value
 ps:List PKV
structure Fh where
 g:Nat
 s:DS
 gs:Nat
 v:Value
 rs:List RV
structure Bq where
 kd:Int
 buffer:Int
 queue:Int
 cache:Int
 timeout:Int
 target:Int
 rate:Nat
 tv:Value
 tos:List Int
structure A0 where
 lv:Value
 ls:List AJ
 gm:Nat
 Z:List Int
 gc:Nat
 gcm:Nat
 N:Nat
 P:List Nat
 rl:Option Gc
 dc:Option Fh
def ptrR(o:Option Gc):Option Addr:=o.map fun r=>⟨r.g,0,none⟩
def ptrC(o:Option Fh):Option Addr:=o.map fun r=>⟨r.g,0,none⟩
def Fb(s:A0):List Value:=[s.lv,.pointer (some ⟨s.gm,0,none⟩),.pointer (some ⟨s.gc,0,none⟩),.pointer (ptrR s.rl),.pointer (ptrC s.dc)]
def Bq.M(p:Bq):Int:=((milZ p.rate:Nat):Int)
structure Ag(w:World)(B:Nat)(p:Bq)(s:A0):Prop where
 lks:Bm w B s.lv s.ls
 each:∀i,i<s.ls.length->(s.ls.getD i .dflt).At w p.M p.queue/\∀j,(s.ls.getD i .dflt).F j->B<=j
 apart:∀i k,i<s.ls.length->k<s.ls.length->i≠k->∀j,(s.ls.getD i .dflt).F j->¬(s.ls.getD k .dflt).F j
 mem:A6 w s.gm (CP p.timeout) s.Z
 memlo:B<=s.gm
 ca:AP w s.gc s.gcm (capN p.cache) s.N s.P
 calo:∀j,Fe s.gc s.gcm j->B<=j
 rl:∀r,s.rl=some r->Aq w r.g r.gb B (capN p.buffer) (Gs p.target) r.i r.v r.ps
 dc:∀d,s.dc=some d->An w d.g B p.buffer d.s d.gs d.v d.rs
def sttF(s:A0)(j:Nat):Prop:=s.lv.ownBlock=some j\/(∃i,i<s.ls.length/\(s.ls.getD i .dflt).F j)\/j=s.gm\/Fe s.gc s.gcm j\/(∃r,s.rl=some r/\EP r.g r.gb r.v j)\/∃d,s.dc=some d/\CH d.g d.gs d.v j
theorem Ag.kd{p:Bq}{s:A0}(h:Ag w B p s):∀j,sttF s j->(kdB w j=150+2\/(kdB w j=199+2\/kdB w j=239+2\/kdB w j=234+2\/kdB w j=1)\/kdB w j=190+2\/(kdB w j=193+2\/kdB w j=0)\/(kdB w j=169+2\/kdB w j=237+2\/kdB w j=75+2)\/(kdB w j=174+2\/kdB w j=225+2\/kdB w j=73+2)):=fun j a=>by
 rcases a with a|⟨l,c,a⟩|rfl|a|⟨r,e,a⟩|⟨d,b,a⟩
 ·exact .inl (Bu h.lks a)
 ·exact .inr (.inl ((h.each l c).1.kd j a))
 ·exact .inr (.inr (.inl h.mem.blk.kd))
 ·exact .inr (.inr (.inr (.inl (h.ca.kd j a))))
 ·exact .inr (.inr (.inr (.inr (.inl ((h.rl r e).kd j a)))))
 ·exact .inr (.inr (.inr (.inr (.inr ((h.dc d b).kd j a)))))
theorem Ag.low{p:Bq}{s:A0}(h:Ag w B p s):∀j,sttF s j->B<=j:=fun j a=>by
 rcases a with a|⟨l,c,a⟩|rfl|a|⟨r,f,a⟩|⟨d,b,a⟩
 ·exact(EW h.lks a).1
 ·exact(h.each l c).2 j a
 ·exact h.memlo
 ·exact h.calo j a
 ·exact Nat.le_of_not_lt fun e=>(h.rl r f).low j e a
 ·exact Nat.le_of_not_lt fun e=>(h.dc d b).low j e a
theorem AJ.At.tu{F:Nat->Prop}{M q:Int}{l:AJ}(h:l.At w M q)(ht:Tu F w w')(a:∀j,l.F j->¬F j):l.At w' M q:=
 Au.tu h ht (a _ (.inl rfl)) (a _ (.inr (.inl rfl))) (a _ (.inr (.inr (.inl rfl)))) (a _ (.inr (.inr (.inr rfl))))
theorem Ag.tu{F:Nat->Prop}{p:Bq}{s:A0}(h:Ag w B p s)(ht:Tu F w w')(b:∀j,sttF s j->¬F j)(u:∀j,kdB w j=265+2->¬F j):Ag w' B p s:=
 ⟨CO h.lks ht fun j a=>b j (.inl a),fun i f=>⟨(h.each i f).1.tu ht fun j a=>b j (.inr (.inl ⟨i,f,a⟩)),(h.each i f).2⟩,h.apart,h.mem.tu ht (b _ (.inr (.inr (.inl rfl)))),h.memlo,
  h.ca.tu ht (b _ (.inr (.inr (.inr (.inl (.inl rfl)))))) (b _ (.inr (.inr (.inr (.inl (.inr rfl)))))),h.calo,
  fun r q=>(h.rl r q).tu ht (fun j a=>b j (.inr (.inr (.inr (.inr (.inl ⟨r,q,a⟩)))))) fun j c e=>u j (Ej e),fun d m=>(h.dc d m).tu ht (fun j a=>b j (.inr (.inr (.inr (.inr (.inr ⟨d,m,a⟩)))))) fun j c e=>u j (Ej e)⟩
theorem Ag.below{p:Bq}{s:A0}(h:Ag w B p s)(a:Below w.heap.size w w'):Ag w' B p s:=h.tu (F:=fun _=>False) (Tu.of_below a) (fun _ _=>id) fun _ _=>id
theorem Pz(ls:List AJ)(i k:Nat)(x:AJ)(a:i<ls.length):(ls.set i x).getD k .dflt=if k=i then x else ls.getD k .dflt:=by
 rw[List.getD_eq_getElem?_getD,List.getElem?_set];by_cases e:k=i
 ·subst e;simp[a]
 ·rw[if_neg (fun h=>e h.symm),if_neg e,List.getD_eq_getElem?_getD]
def AJ.now(l:AJ)(lv:Int)(L:List ByteArray)(lo:Nat):AJ:=⟨l.g,l.gb,l.gq,l.c,lv,L,lo⟩
theorem ga(ls:List AJ)(i:Nat)(lv:Int)(L:List ByteArray)(lo:Nat):E2 (ls.set i ((ls.getD i .dflt).now lv L lo))=E2 ls:=by
 unfold E2;apply List.ext_getElem?;intro j;rw[List.getElem?_map,List.getElem?_map,List.getElem?_set];split
 ·rename_i e
  subst e;split
  ·rename_i h
   simp[AJ.now,List.getD_eq_getElem?_getD,h]
  ·rename_i h
   simp[List.getElem?_eq_none (Nat.le_of_not_lt h)]
 ·rfl
theorem NY{v:Value}(h:w.ownsRow B T sz v n cs)(c:B'<=B):w.ownsRow B' T sz v n cs:=
 ⟨h.1,h.2.imp id fun⟨g,cap,a,b,d,r⟩=>⟨g,cap,a,b,Nat.le_trans c d,r⟩⟩
theorem BV.mono{g:Nat}{v:Value}{l z:Int}{s:Nat}{ss:List ByteArray}(h:BV w g B v o l z s ss)(a:B'<=B):BV w g B' v o l z s ss:=⟨h.blk,Nat.le_trans a h.lo,NY h.own a⟩
theorem Ag.mono{p:Bq}{s:A0}(h:Ag w B p s)(a:B'<=B):Ag w B' p s:=
 ⟨NY h.lks a,fun i c=>⟨(h.each i c).1,fun j b=>Nat.le_trans a ((h.each i c).2 j b)⟩,h.apart,h.mem,Nat.le_trans a h.memlo,h.ca,fun j b=>Nat.le_trans a (h.calo j b),fun r f=>(h.rl r f).mono a,fun d e=>(h.dc d e).mono a⟩
theorem Ag.link{p:Bq}{s:A0}(h:Ag w B p s){i:Nat}(u:i<s.ls.length){lv:Int}{L:List ByteArray}{lo:Nat}(H:((s.ls.getD i .dflt).now lv L lo).At w' p.M p.queue)(ht:Tu (s.ls.getD i .dflt).F w w'):
  Ag w' B p {s with ls:=s.ls.set i ((s.ls.getD i .dflt).now lv L lo)}:=by
 have m:=(h.each i u).1.kd;refine⟨?_,?_,?_,h.mem.tu ht fun e=>?_,h.memlo,h.ca.tu ht (fun e=>?_) fun e=>?_,h.calo,fun r E=>(h.rl r E).tu ht (fun j q e=>?_) fun j y A e=>?_,fun d D=>(h.dc d D).tu ht (fun j q e=>?_) fun j y A e=>?_⟩
 ·have:=CO h.lks ht fun j q e=>by
   have:=Bu h.lks q;have:=m j e;omega
  show w'.ownsRow B 150 1 s.lv (s.ls.set i _).length (E2 _);rw[List.length_set,ga];exact this
 ·intro k f
  rw[List.length_set]at f;rw[Pz _ _ _ _ u];split
  ·exact⟨H,(h.each i u).2⟩
  ·rename_i e
   exact⟨(h.each k f).1.tu ht fun j q=>h.apart k i f u e j q,(h.each k f).2⟩
 ·intro a b v x c j
  rw[List.length_set]at v x;rw[Pz _ _ _ _ u,Pz _ _ _ _ u];have C:((s.ls.getD i .dflt).now lv L lo).F=(s.ls.getD i .dflt).F:=rfl;split
  ·rename_i e
   subst e;rw[if_neg (Ne.symm c),C];exact h.apart a b v x c j
  ·split
   ·rename_i e
    subst e;rw[C];exact h.apart a b v x c j
   ·exact h.apart a b v x c j
 ·have:=h.mem.blk.kd;have:=m _ e;omega
 ·have:=h.ca.kd _ (.inl rfl);have:=m _ e;omega
 ·have:=h.ca.kd _ (.inr rfl);have:=m _ e;omega
 ·have:=(h.rl r E).kd j q;have:=m _ e;omega
 ·have:=Ej A;have:=m _ e;omega
 ·have:=(h.dc d D).kd j q;have:=m _ e;omega
 ·have:=Ej A;have:=m _ e;omega
theorem Ag.keep{F:Nat->Prop}{p:Bq}{s:A0}(h:Ag w B p s)(ht:Tu F w w')(c:∀j,F j->kdB w j≠150+2/\kdB w j≠199+2/\kdB w j≠239+2/\kdB w j≠234+2/\kdB w j≠1):
  Bm w' B s.lv s.ls/\∀i,i<s.ls.length->(s.ls.getD i .dflt).At w' p.M p.queue/\∀j,(s.ls.getD i .dflt).F j->B<=j:=
 ⟨CO h.lks ht fun j b e=>by have:=Bu h.lks b;have:=c j e;omega,fun i a=>⟨(h.each i a).1.tu ht fun j b e=>by have:=(h.each i a).1.kd j b;have:=c j e;omega,(h.each i a).2⟩⟩
theorem Ag.hear{p:Bq}{s:A0}(h:Ag w B p s){Z:List Int}(v:A6 w' s.gm (CP p.timeout) Z)(ht:Tu (fun j=>j=s.gm) w w'):Ag w' B p {s with Z:=Z}:=by
 have a:∀j,j=s.gm->kdB w j=190+2:=fun j e=>by subst e;exact h.mem.blk.kd
 obtain⟨q,u⟩:=h.keep ht fun j e=>by have:=a j e;omega
 exact⟨q,u,h.apart,v,h.memlo,h.ca.tu ht (fun e=>by have:=h.ca.kd _ (.inl rfl);have:=a _ e;omega) (fun e=>by have:=h.ca.kd _ (.inr rfl);have:=a _ e;omega),h.calo,
  fun r m=>(h.rl r m).tu ht (fun j f e=>by have:=(h.rl r m).kd j f;have:=a _ e;omega) fun j b c e=>(by have:=Ej c;have:=a _ e;omega),
  fun d i=>(h.dc d i).tu ht (fun j f e=>by have:=(h.dc d i).kd j f;have:=a _ e;omega) fun j b c e=>(by have:=Ej c;have:=a _ e;omega)⟩
theorem Ag.seen{p:Bq}{s:A0}(h:Ag w B p s){N:Nat}{P:List Nat}(v:AP w' s.gc s.gcm (capN p.cache) N P)(ht:Tu (Fe s.gc s.gcm) w w'):Ag w' B p {s with N:=N,P:=P}:=by
 have a:=h.ca.kd;obtain⟨q,u⟩:=h.keep ht fun j e=>by have:=a j e;omega
 exact⟨q,u,h.apart,h.mem.tu ht (fun e=>by have:=h.mem.blk.kd;have:=a _ e;omega),h.memlo,v,h.calo,
  fun r m=>(h.rl r m).tu ht (fun j f e=>by have:=(h.rl r m).kd j f;have:=a _ e;omega) fun j b c e=>(by have:=Ej c;have:=a _ e;omega),
  fun d i=>(h.dc d i).tu ht (fun j f e=>by have:=(h.dc d i).kd j f;have:=a _ e;omega) fun j b c e=>(by have:=Ej c;have:=a _ e;omega)⟩
theorem Ag.relay{p:Bq}{s:A0}(h:Ag w B p s){r:Gc}(C:s.rl=some r)(b:Gc)(A:Aq w' b.g b.gb B (capN p.buffer) (Gs p.target) b.i b.v b.ps)(ht:Tu (EP r.g r.gb r.v) w w'):Ag w' B p {s with rl:=some b}:=by
 have a:=(h.rl r C).kd;obtain⟨m,q⟩:=h.keep ht fun j e=>by have:=a j e;omega
 exact⟨m,q,h.apart,h.mem.tu ht (fun e=>by have:=h.mem.blk.kd;have:=a _ e;omega),h.memlo,h.ca.tu ht (fun e=>by have:=h.ca.kd _ (.inl rfl);have:=a _ e;omega) (fun e=>by have:=h.ca.kd _ (.inr rfl);have:=a _ e;omega),h.calo,
  fun x D=>(by cases D;exact A),fun d c=>(h.dc d c).tu ht (fun j y e=>by have:=(h.dc d c).kd j y;have:=a _ e;omega) fun j f u e=>(by have:=Ej u;have:=a _ e;omega)⟩
theorem Ag.deco{p:Bq}{s:A0}(h:Ag w B p s){d:Fh}(u:s.dc=some d)(a:Fh)(A:An w' a.g B p.buffer a.s a.gs a.v a.rs)(ht:Tu (CH d.g d.gs d.v) w w'):Ag w' B p {s with dc:=some a}:=by
 have b:=(h.dc d u).kd;obtain⟨i,m⟩:=h.keep ht fun j e=>by have:=b j e;omega
 exact⟨i,m,h.apart,h.mem.tu ht (fun e=>by have:=h.mem.blk.kd;have:=b _ e;omega),h.memlo,h.ca.tu ht (fun e=>by have:=h.ca.kd _ (.inl rfl);have:=b _ e;omega) (fun e=>by have:=h.ca.kd _ (.inr rfl);have:=b _ e;omega),h.calo,
  fun r c=>(h.rl r c).tu ht (fun j y e=>by have:=(h.rl r c).kd j y;have:=b _ e;omega) fun j f q e=>(by have:=Ej q;have:=b _ e;omega),fun x C=>(by cases C;exact A)⟩
structure IM where
 g:Nat
 v:Value
 l:Int
 z:Int
 k:Nat
 ss:List ByteArray
structure Ao where
 id:Nat
 inc:Nat
 p:Bq
 src:Option IM
 s:A0
 t:Nat
def cW(o:Option IM):Option Addr:=o.map fun r=>⟨r.g,0,none⟩
def Ly(p:Bq):List Value:=[.int .i64 p.kd,.int .i64 p.buffer,.int .i64 p.queue,.int .i64 p.cache,.int .i64 p.timeout,.int .i64 p.target,.float .f64 p.rate,p.tv]
def EO(n:Ao):List Value:=[.int .i64 (n.id:Int),.int .u32 (n.inc:Int),.int .i64 n.p.kd,.int .i64 n.p.buffer,.int .i64 n.p.queue,.int .i64 n.p.cache,.int .i64 n.p.timeout,.int .i64 n.p.target,.float .f64 n.p.rate,n.p.tv,.pointer (cW n.src),n.s.lv,.pointer (some ⟨n.s.gm,0,none⟩),.pointer (some ⟨n.s.gc,0,none⟩),.pointer (ptrR n.s.rl),.pointer (ptrC n.s.dc)]
structure Al(w:World)(g B:Nat)(n:Ao):Prop where
 blk:BkA 122 w g (EO n)
 lo:B<=g
 tos:Am w B n.p.tv n.p.tos
 src:∀r,n.src=some r->BV w r.g B r.v (n.id:Int) r.l r.z r.k r.ss
 st:Ag w B n.p n.s
 kd:(n.p.kd=1/\n.src≠none/\n.s.rl=none/\n.s.dc=none)\/(n.p.kd=2/\n.src=none/\n.s.rl≠none/\n.s.dc=none)\/(n.p.kd=3/\n.src=none/\n.s.rl=none/\n.s.dc≠none)
 num:n.inc<4294967296/\n.s.ls.length=n.p.tos.length/\n.p.tos.length<=8
 tm:n.s.N<=n.t/\∀i,i<n.s.ls.length->(n.s.ls.getD i .dflt).lo<=n.t
def Bg(g:Nat)(n:Ao)(j:Nat):Prop:=j=g\/n.p.tv.ownBlock=some j\/(∃r,n.src=some r/\Qw r.g r.v j)\/sttF n.s j
theorem Al.tu{F:Nat->Prop}{g:Nat}{n:Ao}(h:Al w g B n)(ht:Tu F w w')(b:∀j,Bg g n j->¬F j)(d:∀j,kdB w j=265+2->¬F j):Al w' g B n:=
 ⟨h.blk.tu ht (b g (.inl rfl)),h.lo,CO h.tos ht fun j a=>b j (.inr (.inl a)),fun r c=>(h.src r c).tu ht fun j a=>b j (.inr (.inr (.inl ⟨r,c,a⟩))),h.st.tu ht (fun j a=>b j (.inr (.inr (.inr a)))) d,h.kd,h.num,h.tm⟩
theorem Al.below{g:Nat}{n:Ao}(h:Al w g B n)(a:Below w.heap.size w w'):Al w' g B n:=h.tu (F:=fun _=>False) (Tu.of_below a) (fun _ _=>id) fun _ _=>id
theorem Al.low{g:Nat}{n:Ao}(h:Al w g B n):∀j,Bg g n j->B<=j:=fun j a=>by
 rcases a with rfl|a|⟨r,b,a⟩|a
 ·exact h.lo
 ·exact(EW h.tos a).1
 ·rcases a with rfl|a
  ·exact(h.src r b).lo
  ·exact(EW (h.src r b).own a).1
 ·exact h.st.low j a
theorem Al.step{w0:World}{g:Nat}{n:Ao}(h:Al w g B n)(a:Below B w0 w)(ht:Tu (Bg g n) w w'):Below B w0 w':=
 a.trans (ht.below (Nat.le_of_lt (Nat.lt_of_le_of_lt h.lo h.blk.lt)) fun j c b=>by have:=h.low j b;omega)
theorem Al.state{g:Nat}{n:Ao}(h:Al w g B n){s:A0}(D:Ag w' B n.p s)(ht:Tu (sttF n.s) w w')(v:Fb s=Fb n.s)
  (f:s.rl=none↔n.s.rl=none) (m:s.dc=none↔n.s.dc=none) (A:s.ls.length=n.s.ls.length) {t:Nat} (C:s.N<=t/\∀i,i<s.ls.length->(s.ls.getD i .dflt).lo<=t):Al w' g B {n with s:=s,t:=t}:=by
 have u:=h.st.kd;have y:EO {n with s:=s,t:=t}=EO n:=by
  simp only[Fb,List.cons.injEq,and_true]at v;obtain⟨c1,c2,c3,c4,c5⟩:=v;simp only[EO,c1,c2,c3,c4,c5]
 have x:BkA 122 w' g (EO n):=h.blk.tu ht fun e=>by have:=h.blk.kd;have:=u _ e;omega
 refine⟨by rw[y];exact x,h.lo,CO h.tos ht fun j q e=>?_,fun r f=>(h.src r f).tu ht fun j q e=>?_,D,?_,⟨h.num.1,A.trans h.num.2.1,h.num.2.2⟩,C⟩
 ·have:=Bu h.tos q;have:=u _ e;omega
 ·have:=(h.src r f).kd j q;have:=u _ e;omega
 ·rcases h.kd with⟨a,b,c,d⟩|⟨a,b,c,d⟩|⟨a,b,c,d⟩
  ·exact .inl ⟨a,b,f.2 c,m.2 d⟩
  ·exact .inr (.inl ⟨a,b,fun e=>c (f.1 e),m.2 d⟩)
  ·exact .inr (.inr ⟨a,b,f.2 c,fun e=>d (m.1 e)⟩)
end Go.Proofs.YtfpmnekaockodaaGreatDoor
