/-
  Laws that the proof stands on.
-/
import Derived.Test.YtfpfcnfmigaphaaGreatDoorU44
namespace Go.Proofs.YtfpfcnfmigaphaaGreatDoor
open Go.RowKit Go.Sort
set_option linter.unusedVariables false
set_option linter.unusedSimpArgs false
set_option maxRecDepth 4000
set_option maxHeartbeats 8000000
variable {s:ByteArray}{f:Ca}{fs fs':List Cb}{cs:List Value}{n n':AD}{g B q C i k:Nat}{v v':Value}{w w0 w':World}
theorem Zd{w1 w2 w3 b:World}{c gb:Nat}{m o:AD}(d:Below w.heap.size w w1)(l:Aj w2 c w1.heap.size m)(e:Below w1.heap.size w1 w2)(a:Below w2.heap.size w2 w3)(p:Aj b gb w3.heap.size o)(h:Below w3.heap.size w3 b):CG w b c w1.heap.size m gb w3.heap.size o:=
 ⟨(l.below a).below h,p,Ad (Ad (Ad d e) a) h,⟨d.size,Nat.le_trans e.size a.size⟩,fun j r=>Nat.lt_of_lt_of_le (l.lt j r) a.size⟩
theorem CG.last{g' B':Nat}(h:CG w0 w g B n g' B' n'){v:Value}{fs:List Cb}{u:AF->Int×List ByteArray×Nat}(c:AW w' w.heap.size v fs)(a:Aj w' g B (n.each u))(ht:Tu (BM g n) w w'):Eg w0 w' g' B' n' v fs:=
 ⟨(h.fst a ht).b,(h.fst a ht).low,Nat.le_trans h.ord.1 h.ord.2,Nb c h.low.size⟩
theorem Aj.nr(h:Aj w g B n):∀j,BM g n j->kdB w j≠40+2:=fun j a=>by
 rcases a with rfl|a|⟨r,b,a⟩|a
 ·have:=h.blk.kd;omega
 ·have:=Cj h.tos a;omega
 ·have:=(h.src r b).kd j a;omega
 ·have:=h.st.kd j a;omega
theorem Eg.store(h:Eg w0 w g B n v fs)(c:AW w C v' fs'){cs:List Value}(m:BkA 40 w q cs)(ht:Tu (fun j=>j=q) w w')(l:w0.heap.size<=q):Eg w0 w' g B n v fs/\AW w' C v' fs':=by
 have d:=m.kd;refine⟨⟨h.b.tu ht (fun j a e=>?_) fun j a e=>?_,GR h.low ht l,h.ord,Dy h.fly ht fun j a e=>?_⟩,Dy c ht fun j a e=>?_⟩
 ·subst e
  exact h.b.nr j a d
 ·subst e;omega
 ·have:=Cj h.fly a;subst e;omega
 ·have:=Cj c a;subst e;omega
structure Cn(w0 w:World)(g B C q:Nat)(n:AD)(v:Value)(fs:List Cb)(v':Value)(fs':List Cb)(cs:List Value):Prop where
 nd:Eg w0 w g B n v fs
 fly:AW w C v' fs'
 box:BkA 40 w q cs
theorem Cn.store(h:Eg w0 w g B n v fs)(c:AW w C v' fs'){cs a:List Value}(e:BkA 40 w q cs)(ht:Tu (fun j=>j=q) w w')(d:w0.heap.size<=q)(b:BkA 40 w' q a):Cn w0 w' g B C q n v fs v' fs' a:=
 ⟨(h.store c e ht d).1,(h.store c e ht d).2,b⟩
theorem Cn.tu(h:Cn w0 w g B C q n v fs v' fs' cs)(a:Aj w' g B n')(ht:Tu (BM g n) w w'):Cn w0 w' g B C q n' v fs v' fs' cs:=
 ⟨h.nd.tu a ht,Dy h.fly ht fun j c e=>(h.nd.b.nk j e).1 (Cj h.fly c),h.box.tu ht fun e=>h.nd.b.nr _ e h.box.kd⟩
theorem Cn.below(h:Cn w0 w g B C q n v fs v' fs' cs)(a:Below w.heap.size w w'):Cn w0 w' g B C q n v fs v' fs' cs:=
 ⟨h.nd.below a,h.fly.below a,h.box.below a⟩
theorem Cn.more{p:Nat}{a:List Value}(h:Cn w0 w g B C q n v fs v' fs' cs)(c:BkA 40 w p a)(ht:Tu (fun j=>j=p) w w')(hp:w0.heap.size<=p)(b:q≠p):Cn w0 w' g B C q n v fs v' fs' cs:=
 ⟨(h.nd.store h.fly c ht hp).1,(h.nd.store h.fly c ht hp).2,h.box.tu ht b⟩
theorem eD (w : World) (ht : Bs w) : Calls Tryz.prog 9 #[] w fun e w' => e = .returned (.bool true) /\ Below w.heap.size w w' := by
  have HT := Ab ht;clear ht;have FA := Ab True.intro;have FB := Ab True.intro;have FC := Ab True.intro;have FD := Ab True.intro;have FE := Ab True.intro;go_enter Tryz.func9, Tryz.ntmps9
  go_wp2_with (first
    | (clear FA; go_at_call 26; refine (Vm _).mono ?_; rintro e w1 ⟨a1, x1, y1, rfl, br, a8⟩; have az := Ab (show Calls Tryz.prog 10 #[(Dn a1 x1 y1).val, .int .i64 0] w1 _ from Oe (Dn a1 x1 y1) 0 w1 (PU br).1); have aq := Ab a8; clear br a8)
    | (clear FB; go_at_call 10; refine (Aa az).mono ?_; rintro e w2 ⟨ga, H, rfl, a4, bv, a9⟩; have ao := Ab a4; have u := Ab bv; have ar := Ab a9; clear a4 bv a9 az)
    | (clear FC; go_at_call 26; refine (Vm _).mono ?_; rintro e w3 ⟨a2, x2, y2, rfl, bs, ba⟩; have a0 := Ab (show Calls Tryz.prog 10 #[(Dn a2 x2 y2).val, .int .i64 1] w3 _ from Oe (Dn a2 x2 y2) 1 w3 (PU bs).2); have au := Ab ba; clear bs ba)
    | (clear FD; go_at_call 10; refine (Aa a0).mono ?_; rintro e w4 ⟨gb, nb, rfl, bb, bw, W⟩; have m := Ab bw; have y := Ab (Zd (Aa aq) (Aa ao) (Aa ar) (Aa au) bb W); clear bb bw W a0 ao aq ar au)
    | (clear FE; go_at_call 12; refine (LJ ga _ H _ 2 2 [0, 0] 1 _ ((Aa y).below (AB _ _)).a (((Aa y).below (AB _ _)).tabs (Aa HT)) (Lk (Aa u)) (by rw [(Aa u).id]; decide) (Wn _ 0 0 (by decide) (by decide)) (by decide) (by rw [(Aa u).tm]; decide)).mono ?_; rintro e w5 ⟨rfl, f1, bj, a5, bz, -⟩; have ax := Ab bj; have N := Ab (((Aa y).below (AB _ _)).fst a5 bz); clear bj a5 bz)
    | fail)
  refine (LJ ga _ (H.each (AX H.p.queue f1.enc)) _ 2 2 [0, 1] 1 _ ((Aa N).below (AB _ _)).a (((Aa N).below (AB _ _)).tabs (Aa HT)) (show ∀ r, H.src = some r -> Bo H.id r from Lk (Aa u)) (by show H.id <= 7; rw [(Aa u).id]; decide) (Wn _ 0 1 (by decide) (by decide)) (by decide) (by show H.t + 1 < 1099511627776; rw [(Aa u).tm]; decide)).mono ?_;rintro e w6 ⟨rfl, f2, bl, a6, b0, -⟩;have ay := Ab bl;have am := Ab (((Aa N).below (AB _ _)).fst a6 b0);clear bl a6 b0;go_wp2_with fail;refine (NL ga _ _ _ (Aa am).a).mono ?_;rintro e w7 ⟨v, rfl, z, a7, b1⟩
  have bp : ((H.each (AX H.p.queue f1.enc)).each (AX (H.each (AX H.p.queue f1.enc)).p.queue f2.enc)).s.ls.length = 1 := by
    rw [LU, LU];have := (Aa y).a;exact L0 (by decide) (Aa u) this
  rw [bp] at z;obtain ⟨e1, e2, e3⟩ := oF (Aa u) (Aa y).a (Aa ax) (Aa ay);replace z : AW w7 _ v (flyTo ((H.each (AX H.p.queue f1.enc)).each (AX H.p.queue f2.enc)) 1) := z;rw [e1] at z;have HG := Ab ((Aa am).last z a7 b1);obtain ⟨gv, cv, rfl, K⟩ := z.at (by decide);have b8 := (K 0 (by decide)).2.2;have ak := Ab (Aa y).b;have HS := Ab (show MG w w7 gb w3.heap.size 0 nb (.slice (some ⟨gv, 0, none⟩) 2 cv) nb from ⟨Aa HG, Nat.le_refl _, (fun _ => rfl), (fun e => absurd e (by decide)), (fun e => absurd e (by decide))⟩);clear K z a7 b1 N am y ax ay bp e1 b8 HG;go_wp2_with fail;go_loopw [4] (fun i wr => ∃ k n', k <= 2 /\ i = .int .i64 (k : Nat) /\ Hid (MG w wr gb w3.heap.size k nb (.slice (some ⟨gv, 0, none⟩) 2 cv) n')) (fun i _ => 2 - (intOf i).toNat)
  case atStart => exact ⟨0, nb, by decide, rfl, HS⟩
  case round =>
    obtain ⟨k, n', hk, rfl, A⟩ := hrel;rename_i wr;clear HS;by_cases bq : k < 2
    · have cg : (k : Int) < 2 := by omega
      obtain ⟨cn, cj, he, K⟩ := (Aa A).nd.fly.at (by decide);simp only [Value.slice.injEq, Option.some.injEq, Addr.mk.injEq, and_true] at he;obtain ⟨rfl, -, rfl⟩ := he
      have hs : ∃ d : PD, (d = Dd \/ d = CN) /\ ([⟨0, 1, Ck 0 0 Dd⟩, ⟨0, 1, Ck 0 0 CN⟩] : List Cb).getD k .dflt = ⟨0, 1, Ck 0 0 d⟩ /\ (Ck 0 0 d).size <= 1048576 /\ (k = 0 -> d = Dd) /\ (k = 1 -> d = CN) := by
        obtain rfl | rfl : k = 0 \/ k = 1 := by omega
        · exact ⟨Dd, .inl rfl, rfl, e2, (fun _ => rfl), (fun e => absurd e (by decide))⟩
        · exact ⟨CN, .inr rfl, rfl, e3, (fun e => absurd e (by decide)), (fun _ => rfl)⟩
      obtain ⟨d, hd, bf, ca, bc, bd⟩ := hs;have hc := (K k (by show k < 2; exact bq)).2.2;rw [bf] at hc;have HR := Ab (NM gb _ n' (Ck 0 0 d) 3 wr (Aa A).nd.b ((Aa A).nd.tabs (Aa HT)) ca (by have := (Aa A).tm; rw [(Aa m).tm] at this; omega));clear K bf;have HE := Ab (show Ck 0 0 d = Ck 0 0 d from rfl);generalize bi : Ck 0 0 d = s at *;go_wp2_with fail;refine (Aa HR).mono ?_;rintro e w8 ⟨en, n8, rfl, x, bt, b2, -⟩;rw [<- bi] at x;obtain rfl : en = 0 := XI hd x
      have b4 := Ab (show MG w w8 gb w3.heap.size (k + 1) nb (.slice (some ⟨gv, 0, none⟩) 2 cv) n8 from by
        refine ⟨(Aa A).nd.tu bt b2, ?_, fun e => by omega, fun e => ?_, fun e => ?_⟩
        · have := PZ x
          have := (Aa A).tm;omega
        · have bn : k = 0 := by omega
          rw [(Aa A).zero bn, bc bn] at x;exact ⟨0, x⟩
        · have bo : k = 1 := by omega
          obtain ⟨en, h1⟩ := (Aa A).one bo;rw [bd bo] at x;exact ⟨n', en, 0, h1, x⟩)
      clear x bt b2 A HR bi hd bc bd hc e2 e3;go_wp2;go_roundw
      case rel => exact ⟨k + 1, n8, bq, by go_num, b4⟩
      case measure => simp [intOf]; omega
    · obtain rfl : k = 2 := by omega
      obtain ⟨n1, en, cl, h1, h2⟩ := (Aa A).two rfl;have H1 := Ab h1;have H2 := Ab h2;obtain ⟨-, k1, k2, k3, k4, k5, k6, k7, -⟩ := UR (Aa m) h1 h2;obtain ⟨s1, s2, s3⟩ := Su (Aa m) (Aa ak)
      have bx : ∀ r, n'.src = some r -> Bo n'.id r := fun r hr => by
        rw [k4, s2] at hr;cases hr
      have ap := Ab (LJ gb _ n' none 0 0 [] 3 wr (Aa A).nd.b ((Aa A).nd.tabs (Aa HT)) bx (by rw [k1]; decide) (FQ _) (by decide) (by rw [k6, (Aa m).tm]; decide));have cc : n'.s.ls.length = 1 := by rw [k5]; exact L0 (by decide) (Aa m) (Aa ak)
      have cd : n'.p.rate < 18446744073709551616 := by rw [k3, (Aa m).rate]; exact (by decide : 4607182418800017408 < 18446744073709551616)
      have ce : n'.p.timeout = 5 := by rw [k3, (Aa m).timeout]; rfl
      have cb : n'.p.kd = 3 := by rw [k3, s1]
      clear h1 h2 bx;go_wp2_with fail;refine (Aa ap).mono ?_;rintro e w9 ⟨rfl, f3, bm, bu, b3, -⟩;obtain ⟨⟨z1, z2⟩, kp, qd, z3⟩ := ph (w := w4) (wx := w4) (Aa m) (Aa ak) (Aa H1) (Aa H2) bm;have al := Ab ((Aa A).nd.tu bu b3);clear bm bu b3 ap A H1 H2;go_wp2_with fail;refine (NL gb _ _ _ (Aa al).b).mono ?_;rintro e cq ⟨v, rfl, G, Z, ae⟩;rw [LU, cc, z2] at G;obtain ⟨gh, ch, rfl, b9⟩ := G.at (show 0 < 1 by decide);have o := Ab ((Aa al).tu Z ae);have Q := Ab G;clear Z ae al b9 G;go_wp2_with fail;refine (SN gb _ _ 4 _ (Aa o).b ((Aa o).tabs (Aa HT) _ (Below.refl _ _)).tab).mono ?_;rintro e L ⟨rfl, D⟩;rw [z3];have b6 := Ab (show w.heap.size <= L.heap.size from Nat.le_trans (Aa o).low.size D.size);have P := Ab (((Aa o).below D).below (AB L (.cells #[.int .i64 0, .int .i64 0, .int .i64 0, .int .i64 0, .int .i64 0, .bool false, .string ⟨#[]⟩] 40)));have R := Ab (((Aa Q).below D).below (AB L (.cells #[.int .i64 0, .int .i64 0, .int .i64 0, .int .i64 0, .int .i64 0, .bool false, .string ⟨#[]⟩] 40)));have J := Ab (AV 40 L [.int .i64 0, .int .i64 0, .int .i64 0, .int .i64 0, .int .i64 0, .bool false, .string ⟨#[]⟩]);clear D o Q
      go_wp2_with (first
        | ((with_reducible refine Jw 40 40 LY 6 45 L.heap.size 0 _ [.int .i64 0, .int .i64 (kp : Int), .int .i64 2, .int .i64 (qd : Int), .int .i64 1, .bool true, .string ⟨#[97, 98]⟩] ?_ ?_ (Aa J) rfl ?_ ?_ ?_); (focus rfl); (focus rfl); (focus exact (show 0 + 7 <= 7 by decide)); (focus exact (by simp [Value.oneCell'])); intro cr aj af; have T := Ab aj; have S := Ab af; clear aj af)
        | fail)
      have I := Ab (Cn.store (Aa P) (Aa R) (Aa J) (Aa S) (Aa b6) (Aa T));clear P R J S T;refine (dD gb _ _ _ (Aa I).nd.b cd).mono ?_;rintro e ct ⟨rfl, s', aa, ad, ag, -⟩;have l := Ab ((Aa I).tu aa (ag.wide fun j e => .inl e))
      have z5 : Ih ⟨((n'.each (AX n'.p.queue f3.enc)).each Cu).id, (((n'.each (AX n'.p.queue f3.enc)).each Cu).inc + 1) % 4294967296, ((n'.each (AX n'.p.queue f3.enc)).each Cu).p, ((n'.each (AX n'.p.queue f3.enc)).each Cu).src, s', ((n'.each (AX n'.p.queue f3.enc)).each Cu).t + 1⟩ 4 = [.int .i64 1, .int .i64 0, .int .i64 0, .int .i64 0, .int .i64 0, .bool false, .string ⟨#[]⟩] := by
        refine (XJ ?_ ?_ ?_).trans ?_
        · exact ad
        · show n'.p.kd ≠ 2
          rw [cb]; decide
        · show (GX (Da n'.p.timeout) (List.replicate 16 0) 4).length = 0
          rw [ce]; kernel_rfl
        show ([.int .i64 (((n'.inc + 1) % 4294967296 : Nat) : Int), .int .i64 0, .int .i64 0, .int .i64 0, .int .i64 0, .bool false, .string ⟨#[]⟩] : List Value) = _;rw [k2];rfl
      clear aa ad ag I;go_wp2_with fail;refine (SN gb _ _ 4 _ (Aa l).nd.b ((Aa l).nd.tabs (Aa HT) _ (Below.refl _ _)).tab).mono ?_;rintro e O ⟨rfl, E⟩;rw [z5];have a3 := Ab (show w.heap.size <= O.heap.size from Nat.le_trans (Aa l).nd.low.size E.size);have av := Ab (((Aa l).below E).below (AB O (.cells #[.int .i64 0, .int .i64 0, .int .i64 0, .int .i64 0, .int .i64 0, .bool false, .string ⟨#[]⟩] 40)));have b5 := Ab (((Aa l).below E).box.lt);have V := Ab (AV 40 O [.int .i64 0, .int .i64 0, .int .i64 0, .int .i64 0, .int .i64 0, .bool false, .string ⟨#[]⟩]);clear E l z5
      go_wp2_with (first
        | ((with_reducible refine Jw 40 40 LY 7 49 O.heap.size 0 _ [.int .i64 1, .int .i64 0, .int .i64 0, .int .i64 0, .int .i64 0, .bool false, .string ⟨#[]⟩] ?_ ?_ (Aa V) rfl ?_ ?_ ?_); (focus rfl); (focus rfl); (focus exact (show 0 + 7 <= 7 by decide)); (focus exact (by simp [Value.oneCell'])); intro an h ah; have cf := Ab h; have c := Ab ((Aa av).more (Aa V) ah (Aa a3) (Nat.ne_of_lt (Aa b5))); obtain ⟨co, ck, bg, Y⟩ := (Aa c).nd.fly.at (show 0 < 2 by decide); obtain ⟨cm, ci, bh, X⟩ := (Aa c).fly.at (show 0 < 1 by decide); simp only [Value.slice.injEq, Option.some.injEq, Addr.mk.injEq, and_true] at bg bh; obtain ⟨rfl, -, rfl⟩ := bg; obtain ⟨rfl, -, rfl⟩ := bh; have m1 : an.cell? ⟨gv, 1, none⟩ = some (.int .i64 1) := (Y 0 (show 0 < 2 by decide)).2.1; have m2 : an.cell? ⟨gh, 2, none⟩ = some (.string f3.enc) := (X 0 (show 0 < 1 by decide)).2.2; have r5 := (Aa c).box.at 5 rfl; have r6 := (Aa c).box.at 6 rfl; have r2 := (Aa c).box.at 2 rfl; have r4 := (Aa c).box.at 4 rfl; have q0 := h.at 0 rfl; have q1 := h.at 1 rfl; have q2 := h.at 2 rfl; have q3 := h.at 3 rfl; have q4 := h.at 4 rfl; have q5 := h.at 5 rfl; have q6 := h.at 6 rfl; have cw : (f3.enc.size : Int) = 10 := by rw [z1]; rfl
           clear h ah Y X)
        | fail)
      refine (NM gb _ _ ⟨#[]⟩ 0 an (Aa c).nd.b ((Aa c).nd.tabs (Aa HT)) (by decide) (by show n'.t + 1 + 1 + 1 < 1099511627776; rw [k6, (Aa m).tm]; decide)).mono ?_;rintro e cu ⟨b7, cp, rfl, ⟨_, _, _, _, ac, _⟩, ab, ai, -⟩;obtain rfl : b7 = 2 := iy ac;have aw := Ab ((Aa c).tu ab ai);clear ac ab ai;go_wp2;go_ret;exact ⟨rfl, (Aa aw).nd.low⟩
def Gb(id:Nat)(kd:Int)(s:ByteArray):Prop:=∃f:Bm,f.ok/\Ac f.p.r.xs/\f.enc=s/\f.fr=(id:Int)/\(f.kd=2->kd≠3)
theorem Gb.size{id:Nat}{kd:Int}(h:Gb id kd s):s.size<=1048576:=by
 obtain⟨f,a,_,rfl,_⟩:=h;exact Bm.enc_size a
theorem Gb.dec{id:Nat}{kd:Int}(h:Gb id kd s){b a d A z y E j:Int}{D:List Nat}{t:ByteArray}{en:Nat}(p:Ay s b a d A z y E j D t en):en=0/\a=(id:Int)/\(b=2->kd≠3):=by
 obtain⟨f,c,x,rfl,r,u⟩:=h;obtain⟨l,⟨m,o,G⟩,_⟩:=mm x c p;exact⟨l,o▸r,fun e=>u (m.trans e)⟩
def CW(n:AD):Prop:=∀i,i<n.s.ls.length->∀s∈(n.s.ls.getD i .dflt).L,Gb n.id n.p.kd s
theorem CW.each{u:AF->Int×List ByteArray×Nat}(h:CW n)(d:∀l,∀s∈(u l).2.1,s∈l.L\/Gb n.id n.p.kd s):CW (n.each u):=fun i a s c=>by
 rw[LU]at a;rw[mc a]at c;have b:s∈(u (n.s.ls.getD i .dflt)).2.1:=c;rcases d _ s b with e|e
 ·exact h i a s e
 ·exact e
theorem CW.act(h:CW n){q:Int}{e:ByteArray}(c:Gb n.id n.p.kd e):CW (n.each (AX q e)):=h.each fun l s b=>by
 unfold AX at b;split at b
 ·rcases List.mem_append.1 b with a|a
  ·exact .inl a
  ·rw[List.mem_singleton.1 a];exact .inr c
 ·exact .inl b
theorem CW.tick(h:CW n){M q k:Int}:CW (n.each (JC M q k)):=h.each fun l s a=>.inl a
theorem CW.pump(h:CW n):CW (n.each Cu):=h.each fun l s a=>.inl (List.mem_of_mem_drop a)
theorem CW.recv{now:Int}{en:Nat}(h:CW n)(a:Fq n s now en n'):CW n'/\n'.id=n.id/\n'.p=n.p/\n'.src=n.src:=by
 obtain⟨kd,fr,ic,q,b,⟨_,a⟩|⟨_,N,rl,dc,a,_⟩⟩:=a
 ·subst a;exact⟨h,rfl,rfl,rfl⟩
 ·subst a;exact⟨h,rfl,rfl,rfl⟩
theorem Yl{L:List Nat}{f:Bm}(h:Aj w g B n)(j:n.id<=7)(l:∀r,n.src=some r->Bo n.id r)(d:Ex n L f)(u:Ac f.p.r.xs):Gb n.id n.p.kd f.enc:=by
 refine⟨f,(Ex.ok h j l d).1,u,rfl,d.1,fun e x=>?_⟩;have m:=d.2.2.1;rcases h.kd with⟨a,_⟩|⟨a,_⟩|⟨_,b,c,_⟩
 ·omega
 ·omega
 ·rw[V7 b c]at m
  have o:f.kd=1:=m;omega
theorem VN{n:AD}(h:CW n):∀(k:Nat),k<=n.s.ls.length->∀x∈flyTo n k,x.fr=(n.id:Int)/\Gb n.id n.p.kd x.s/\∃i,i<k/\x.dst=n.p.tos.getD i 0
 |0,_,x,b=>by cases b
 |k+1,o,x,b=>by
  have c:x∈flyTo n k++Du n k (Es n k):=b;rcases List.mem_append.1 c with a|a
  ·obtain⟨d,e,i,m,j⟩:=VN h k (by omega) x a
   exact⟨d,e,i,by omega,j⟩
  ·unfold Du at a
   obtain⟨s,l,rfl⟩:=List.mem_map.1 a;exact⟨rfl,h k (by omega) s (List.mem_of_mem_take l),k,by omega,rfl⟩
theorem Z0{l z K s:Nat}{xs:List Nat}(e:i<=7)(a:1<=z/\z<=64)(b:1<=K/\K<=128)(d:l<=K*z):Bo i ⟨g,v,(l:Int),(z:Int),min s K,Be xs z K⟩:=by
 have c:(Be xs z K).length=K:=Ip _ _ _;refine⟨by show 1<=(Be xs z K).length;omega,by show(Be xs z K).length<=128;omega,by show min s K<=(Be xs z K).length;omega,bI xs z K a.2,fun L=>Fl.2 ?_⟩;have:=W8 i l z K (min s K) xs L 0 (by omega) a.1 a.2 b.1 b.2 (by omega) d;show BS (i:Int) (l:Int) ((Be xs z K).length:Int) (z:Int) 0 (C1 (Be xs z K).length (min s K) L 0) (st (Bj (Be xs z K) (C1 (Be xs z K).length (min s K) L 0) (Be xs z K).length)).size;rw[c];exact this
theorem ZR(j:ES w f i)(l:i<=7)(h:CF f i n)(o:Aj w' g B n):∀r,n.src=some r->Bo n.id r:=fun r c=>by
 have m:n.p.kd=1:=by
  rcases o.kd with⟨a,_⟩|⟨_,b,_⟩|⟨_,b,_⟩
  ·exact a
  ·rw[b]at c;cases c
  ·rw[b]at c;cases c
 obtain⟨g,v,e⟩:=h.src m;rw[e]at c;cases c;obtain⟨s1,s2,x,d⟩:=j.size;obtain⟨z,u⟩:∃z:Nat,f.size=(z:Int):=⟨f.size.toNat,by omega⟩;rw[u]at d⊢;rw[h.id];exact Z0 l ⟨by omega,by omega⟩ ⟨Jy _ _,d⟩ (J8 _ _ (by show 0<(z:Int).toNat;omega))
theorem CW.new(h:Ig n.p n.s):CW n:=fun i b s a=>by
 rw[(h.1.1 i b).2.1]at a;cases a
theorem FX(n l h:Int)(w:World)(a:l<=n/\n<=h):Calls Tryz.prog 23 #[.int .i64 n,.int .i64 l,.int .i64 h] w fun e w'=>e=.returned (.bool true)/\w'=w:=by
 obtain⟨b,c⟩:=a;go_enter Tryz.func23,Tryz.ntmps23;go_wp2;go_ret;exact⟨rfl,rfl⟩
theorem Gq(n l h:Int)(w:World)(a:¬(l<=n/\n<=h)):Calls Tryz.prog 23 #[.int .i64 n,.int .i64 l,.int .i64 h] w fun e w'=>e=.returned (.bool false)/\w'=w:=by
 by_cases b:l<=n
 ·have c:¬n<=h:=fun e=>a ⟨b,e⟩
  clear a;go_enter Tryz.func23,Tryz.ntmps23;go_wp2;go_ret;exact⟨rfl,rfl⟩
 ·clear a
  go_enter Tryz.func23,Tryz.ntmps23;go_wp2;go_ret;exact⟨rfl,rfl⟩
theorem oA(a:Option Addr)(n c:Nat)(xs:List Int)(id N:Int)(w:World)(h:IntzAt w a n xs)(hn:n<=9223372036854775807)(hN:1<=N/\N<=8)(ad:0<=id/\id<=8):
  Calls Tryz.prog 24 #[.slice a n c,.int .i64 id,.int .i64 N] w fun e w'=>((e=.returned (.bool true)/\Dj xs id N)\/(e=.returned (.bool false)/\¬Dj xs id N))/\Below w.heap.size w w':=by
 obtain rfl:=h.1;by_cases X:N<=(xs.length:Int)
 ·have hd:decide (N<=(xs.length:Int))=true:=by simpa using X
  clear h;go_enter Tryz.func24,Tryz.ntmps24;go_wp2;go_ret;exact⟨.inr ⟨rfl,fun h=>by have:=h.1;omega⟩,Below.refl _ _⟩
 have hd:decide (N<=(xs.length:Int))=false:=by simpa using X
 have O:(xs.length:Int)<N:=by omega
 have ac:IntKind.i64.wrap (N-1)=N-1:=by rw[IntKind.wrap_i64];omega
 have H:=Ab h;clear h;go_enter Tryz.func24,Tryz.ntmps24;go_wp2;go_loopw [7] (fun i wr=> ∃k:Nat,k<=xs.length/\i=.int .i64 k/\Hid (Below w.heap.size w wr)/\Hid (∀j,j<k->(0<=xs.getD j 0/\xs.getD j 0<=N-1)/\xs.getD j 0≠id/\∀k,k<j->xs.getD k 0≠xs.getD j 0)) (fun i _=>xs.length-(intOf i).toNat)
 case atStart=>exact⟨0,Nat.zero_le _,rfl,Ab (Below.refl _ _),Ab (fun j V=>by omega)⟩
 case round=>
  obtain⟨k,hk,rfl,I,D⟩:=hrel;by_cases m:k<xs.length
  ·have Y:(k:Int)<(xs.length:Int):=by omega
   obtain⟨b,off,rfl,E⟩:=((Aa H).below (Aa I)).at m;have o:=E k m;clear E;have d:(¬((0<=xs.getD k 0/\xs.getD k 0<=N-1)/\xs.getD k 0≠id/\∀q,q<k->xs.getD q 0≠xs.getD k 0))->¬Dj xs id N:=fun e p=>e (p.2 k m);have d:=Ab d;by_cases r:0<=xs.getD k 0/\xs.getD k 0<=N-1
   case neg=>
    have z:=Ab ((Aa d) fun p=>r p.1);generalize xs.getD k 0=x at*
    go_wp2_with (first
     |(go_at_call 23;refine(Gq _ _ _ _ r).mono ?_;rintro e w1 ⟨rfl,l⟩;obtain rfl:=l.symm;clear l)
     |fail)
    go_ret;exact⟨.inr ⟨rfl,Aa z⟩,Aa I⟩
   case pos=>
    by_cases A:xs.getD k 0=id
    ·have z:=Ab ((Aa d) fun p=>p.2.1 A)
     rw[A]at o r;clear A d D
     go_wp2_with (first
      |(go_at_call 23;refine(FX _ _ _ _ r).mono ?_;rintro e w1 ⟨rfl,l⟩;obtain rfl:=l.symm;clear l)
      |fail)
     go_ret;exact⟨.inr ⟨rfl,Aa z⟩,Aa I⟩
    ·obtain⟨x,W⟩:∃x,xs.getD k 0=x:=⟨_,rfl⟩
     have Q:=Ab W;have J:=Ab (show(0<=xs.getD k 0/\xs.getD k 0<=N-1)/\xs.getD k 0≠id from⟨r,A⟩);rw[W]at o r A;have S:(x==id)=false:=by rw[beq_eq_false_iff_ne];exact A
     clear W A
     go_wp2_with (first
      |(go_at_call 23;refine(FX _ _ _ _ r).mono ?_;rintro e w1 ⟨rfl,l⟩;obtain rfl:=l.symm;clear l)
      |fail)
     clear o;go_loopw [8] (fun i wi=> ∃q:Nat,q<=k/\i=.int .i64 q/\Hid (Below w.heap.size w wi)/\Hid (∀j,j<q->xs.getD j 0≠xs.getD k 0)) (fun i _=>k-(intOf i).toNat)
     case atStart=>exact⟨0,Nat.zero_le _,rfl,I,Ab (fun j V=>by omega)⟩
     case round=>
      obtain⟨q,hq,rfl,u,K⟩:=hrel;by_cases P:q<k
      ·have Z:(q:Int)<(k:Int):=by omega
       obtain⟨b',ab,L,E⟩:=((Aa H).below (Aa u)).at m;simp only[Option.some.injEq,Addr.mk.injEq,and_true]at L;obtain⟨rfl,rfl⟩:=L;have o:=E k m;rw[Aa Q]at o;have T:=E q (by omega);clear E;have ae:q<xs.length:=by omega
       have aa:(q:Int)<(xs.length:Int):=by omega
       by_cases G:xs.getD q 0=x
       ·have z:=Ab ((Aa d) fun p=>p.2.2 q P (G.trans (Aa Q).symm))
        rw[G]at T;clear G d K D J Q S r;go_wp2;go_region
        all_goals go_wp2
        go_ret;exact⟨.inr ⟨rfl,Aa z⟩,(Aa u).drew⟩
       ·have R:=Ab (show∀j,j<q+1->xs.getD j 0≠xs.getD k 0 from fun j V=>by
         by_cases e:j=q
         ·rw[e,Aa Q];exact G
         ·exact Aa K j (by omega))
        have e3:(xs.getD q 0==x)=false:=by rw[beq_eq_false_iff_ne];exact G
        clear G d K D J S r;generalize xs.getD q 0=y at*;go_wp2;go_region
        all_goals go_wp2
        go_roundw
        case rel=>exact⟨q+1,P,by go_num,Ab (Aa u).drew,R⟩
        case measure=>simp[intOf];omega
      ·obtain rfl:q=k:=by omega
       have HS:=Ab (show∀j,j<q+1->(0<=xs.getD j 0/\xs.getD j 0<=N-1)/\xs.getD j 0≠id/\∀k,k<j->xs.getD k 0≠xs.getD j 0 from fun j V=>by
        by_cases e:j=q
        ·rw[e];exact⟨(Aa J).1,(Aa J).2,Aa K⟩
        ·exact Aa D j (by omega))
       clear d K D J S r;go_wp2;go_roundw
       case rel=>exact⟨q+1,m,by go_num,u,HS⟩
       case measure=>simp[intOf];omega
  ·have z:=Ab (show Dj xs id N from⟨O,fun i hi=>Aa D i (by omega)⟩)
   go_wp2;go_ret;exact⟨.inl ⟨rfl,Aa z⟩,Aa I⟩
theorem oX(f:Ca)(w:World)(l:f.n<=9223372036854775807)(h:¬K1 f):Calls Tryz.prog 6 #[f.val] w fun e w'=>e=.returned (.int .i64 1)/\Below w.heap.size w w':=by
 obtain⟨a,n,c,ds,obj,size,spread,buffer,queue,cache,rate,timeout,target⟩:=f;simp only[Ca.val]at l⊢;have d:=Ab (AB w (.cells #[.slice a n c,.string obj,.int .i64 size,.int .i64 spread,.int .i64 buffer,.int .i64 queue,.int .i64 cache,.float .f64 rate,.int .i64 timeout,.int .i64 target] 25));have j:=Ab h;clear h;by_cases y:(1<=(n:Int)/\(n:Int)<=8)
 case neg=>
  go_enter Tryz.func6,Tryz.ntmps6
  go_wp2_with (first
   |(go_at_call 23;first|(refine(FX _ _ _ _ (by assumption)).mono ?_;rintro e w1 ⟨rfl,b⟩;obtain rfl:=b.symm;clear b)|(refine(Gq _ _ _ _ (by assumption)).mono ?_;rintro e w1 ⟨rfl,b⟩;obtain rfl:=b.symm;clear b))
   |fail)
  go_ret;exact⟨rfl,Aa d⟩
 by_cases m:(0<=spread/\spread<=128)
 case neg=>
  go_enter Tryz.func6,Tryz.ntmps6
  go_wp2_with (first
   |(go_at_call 23;first|(refine(FX _ _ _ _ (by assumption)).mono ?_;rintro e w1 ⟨rfl,b⟩;obtain rfl:=b.symm;clear b)|(refine(Gq _ _ _ _ (by assumption)).mono ?_;rintro e w1 ⟨rfl,b⟩;obtain rfl:=b.symm;clear b))
   |fail)
  go_ret;exact⟨rfl,Aa d⟩
 by_cases o:(1<=buffer/\buffer<=256)
 case neg=>
  go_enter Tryz.func6,Tryz.ntmps6
  go_wp2_with (first
   |(go_at_call 23;first|(refine(FX _ _ _ _ (by assumption)).mono ?_;rintro e w1 ⟨rfl,b⟩;obtain rfl:=b.symm;clear b)|(refine(Gq _ _ _ _ (by assumption)).mono ?_;rintro e w1 ⟨rfl,b⟩;obtain rfl:=b.symm;clear b))
   |fail)
  go_ret;exact⟨rfl,Aa d⟩
 by_cases p:(1<=queue/\queue<=256)
 case neg=>
  go_enter Tryz.func6,Tryz.ntmps6
  go_wp2_with (first
   |(go_at_call 23;first|(refine(FX _ _ _ _ (by assumption)).mono ?_;rintro e w1 ⟨rfl,b⟩;obtain rfl:=b.symm;clear b)|(refine(Gq _ _ _ _ (by assumption)).mono ?_;rintro e w1 ⟨rfl,b⟩;obtain rfl:=b.symm;clear b))
   |fail)
  go_ret;exact⟨rfl,Aa d⟩
 by_cases r:(0<=cache/\cache<=256)
 case neg=>
  go_enter Tryz.func6,Tryz.ntmps6
  go_wp2_with (first
   |(go_at_call 23;first|(refine(FX _ _ _ _ (by assumption)).mono ?_;rintro e w1 ⟨rfl,b⟩;obtain rfl:=b.symm;clear b)|(refine(Gq _ _ _ _ (by assumption)).mono ?_;rintro e w1 ⟨rfl,b⟩;obtain rfl:=b.symm;clear b))
   |fail)
  go_ret;exact⟨rfl,Aa d⟩
 by_cases u:(0<=timeout/\timeout<=1048576)
 case neg=>
  go_enter Tryz.func6,Tryz.ntmps6
  go_wp2_with (first
   |(go_at_call 23;first|(refine(FX _ _ _ _ (by assumption)).mono ?_;rintro e w1 ⟨rfl,b⟩;obtain rfl:=b.symm;clear b)|(refine(Gq _ _ _ _ (by assumption)).mono ?_;rintro e w1 ⟨rfl,b⟩;obtain rfl:=b.symm;clear b))
   |fail)
  go_ret;exact⟨rfl,Aa d⟩
 by_cases x:(1<=target/\target<=128)
 case neg=>
  go_enter Tryz.func6,Tryz.ntmps6
  go_wp2_with (first
   |(go_at_call 23;first|(refine(FX _ _ _ _ (by assumption)).mono ?_;rintro e w1 ⟨rfl,b⟩;obtain rfl:=b.symm;clear b)|(refine(Gq _ _ _ _ (by assumption)).mono ?_;rintro e w1 ⟨rfl,b⟩;obtain rfl:=b.symm;clear b))
   |fail)
  go_ret;exact⟨rfl,Aa d⟩
 exact absurd (show K1 ⟨a,n,c,ds,obj,size,spread,buffer,queue,cache,rate,timeout,target⟩ from⟨⟨by show 1<=n;omega,by show n<=8;omega⟩,m,o,p,r,u,x⟩) (Aa j)
theorem oW(f:Ca)(w:World)(h:Dg w f):Calls Tryz.prog 6 #[f.val] w fun e w'=> ∃en:Int,e=.returned (.int .i64 en)/\CU f en/\Below w.heap.size w w':=by
 by_cases P:K1 f
 case neg=>exact(oX f w h.len P).mono fun e w' ⟨he,hb⟩=>⟨1,he,.inr ⟨fun k=>P k.1,rfl⟩,hb⟩
 have D:=Ab (show∀f':Ca,f'=f->∀en,CU f' en->CU f en from fun f' e en k=>e▸k);obtain⟨a,n,c,ds,obj,size,spread,buffer,queue,cache,rate,timeout,target⟩:=f;have aa:=P;obtain⟨T,k1,k2,k3,k4,k5,k6⟩:=aa;have k0:1<=(n:Int)/\(n:Int)<=8:=by have k9:1<=n/\n<=8:=T;omega
 replace k1:0<=spread/\spread<=128:=k1;replace k2:1<=buffer/\buffer<=256:=k2;replace k3:1<=queue/\queue<=256:=k3;replace k4:0<=cache/\cache<=256:=k4;replace k5:0<=timeout/\timeout<=1048576:=k5;replace k6:1<=target/\target<=128:=k6;have ho:obj.size<=9223372036854775807:=h.obj;have HB:=Ab (AB w (.cells #[.slice a n c,.string obj,.int .i64 size,.int .i64 spread,.int .i64 buffer,.int .i64 queue,.int .i64 cache,.float .f64 rate,.int .i64 timeout,.int .i64 target] 25));have HX:=Ab (AV 25 w [.slice a n c,.string obj,.int .i64 size,.int .i64 spread,.int .i64 buffer,.int .i64 queue,.int .i64 cache,.float .f64 rate,.int .i64 timeout,.int .i64 target]);have HD:=Ab (Bn.below h.nds (Aa HB));have Y:=Ab h.tos;have X:=Ab (fun wx=>ka (obj.size:Int) size wx (by omega));have r:=Ab P;clear P h D T;unfold Ca.val;go_enter Tryz.func6,Tryz.ntmps6
 go_wp2_with (first
  |(go_at_call 23;first|(refine(FX _ _ _ _ (by assumption)).mono ?_;rintro e w1 ⟨rfl,l⟩;obtain rfl:=l.symm;clear l)|(refine(Gq _ _ _ _ (by assumption)).mono ?_;rintro e w1 ⟨rfl,l⟩;obtain rfl:=l.symm;clear l))
  |fail)
 generalize w.alloc (.cells #[.slice a n c,.string obj,.int .i64 size,.int .i64 spread,.int .i64 buffer,.int .i64 queue,.int .i64 cache,.float .f64 rate,.int .i64 timeout,.int .i64 target] 25)=W at*;have HW:=Ab (Below.refl W.heap.size W);go_loopw [4,5] (fun s i wr=> ∃k:Nat,k<=n/\i=.int .i64 k/\s=.int .i64 (srcN ds k:Nat)/\Hid (Below W.heap.size W wr)/\Hid (∀j,j<k->(1<=(ds.getD j .dflt).kd/\(ds.getD j .dflt).kd<=3)/\Dj (ds.getD j .dflt).tos j n)) (fun _ i _=>n-(intOf i).toNat)
 case atStart=>exact⟨0,Nat.zero_le _,rfl,rfl,HW,Ab (fun j hj=>by omega)⟩
 case round=>
  obtain⟨k,hk,rfl,rfl,A,J⟩:=hrel;rename_i wr;have R:=(Aa HX).below (Aa A);have h0:=R.at 0 rfl;have h1:=R.at 1 rfl;have h2:=R.at 2 rfl;have Z:=Ab R;have y:=Ab (Ad (Aa HB) (Aa A));clear R;have ad:=YZ ds k;by_cases m:k<n
  ·have ac:(k:Int)<(n:Int):=by omega
   have hd:=(Aa HD).below (Aa A);obtain⟨b,off,ha,hc⟩:=hd.at m;obtain⟨H,ab⟩:=hc k m;have Q:=hd.2.1 k m;have HT:=Ab (oA _ _ (ds.getD k .dflt).c _ (k:Int) (n:Int) _ Q ((Aa Y) k m).1 k0 (by omega));have E:=Ab (show(¬((1<=(ds.getD k .dflt).kd/\(ds.getD k .dflt).kd<=3)/\Dj (ds.getD k .dflt).tos k n))->CU ⟨a,n,c,ds,obj,size,spread,buffer,queue,cache,rate,timeout,target⟩ 1 from fun e=>.inr ⟨fun p=>e (p.2.1 k m),rfl⟩);have u:=Ab (show srcN ds (k+1)=srcN ds k+if (ds.getD k .dflt).kd=1 then 1 else 0 from rfl)
   have G:=Ab (fun(e:(1<=(ds.getD k .dflt).kd/\(ds.getD k .dflt).kd<=3)/\Dj (ds.getD k .dflt).tos k n)=>show∀j,j<k+1->(1<=(ds.getD j .dflt).kd/\(ds.getD j .dflt).kd<=3)/\Dj (ds.getD j .dflt).tos j n from fun j hj=>by
    by_cases q:j=k
    ·rw[q];exact e
    ·exact Aa J j (by omega))
   have V:=Ab (fun wx (hb:Below wr.heap.size wr wx)=>show wx.cell? ⟨b,off+k*2,none⟩=some (.int .i64 (ds.getD k .dflt).kd) from(hb.cell (p:=⟨b,off+k*2,none⟩) (World.block_lt_of_cell? wr _ H)).trans H);have HA:=Ab ha;subst ha;clear hc Q hd HA;generalize ds.getD k .dflt=d at*;obtain⟨s1,I⟩:∃s1,srcN ds (k+1)=s1:=⟨_,rfl⟩;rw[I]at u;have N:=Ab I;clear I;generalize srcN ds k=s0 at*;by_cases K:1<=d.kd/\d.kd<=3
   case neg=>
    have D:=Ab ((Aa E) fun p=>K p.1)
    go_wp2_with (first
     |(go_at_call 23;refine(Gq _ _ _ _ K).mono ?_;rintro e w1 ⟨rfl,l⟩;obtain rfl:=l.symm;clear l)
     |fail)
    go_ret;exact⟨1,rfl,Aa D,Aa y⟩
   case pos=>
    go_wp2_with (first
     |(go_at_call 23;refine(FX _ _ _ _ K).mono ?_;rintro e w1 ⟨rfl,l⟩;obtain rfl:=l.symm;clear l)
     |fail)
    refine(Aa HT).mono ?_;rintro e w2 ⟨⟨rfl,x⟩|⟨rfl,x⟩,o⟩
    ·have S:=(Aa Z).below o
     have g0:=S.at 0 rfl;have gk:=Aa V _ o;have z:=Ab (Ad (Aa A) o);have O:=Ab (Aa G ⟨K,x⟩);clear S h0 h1 h2 H ab E G J x o;by_cases L:d.kd=1
     ·have hs:s1=s0+1:=by rw[Aa u,if_pos L]
      rw[L]at gk;clear K L u;go_wp2;go_roundw
      case rel=>exact⟨k+1,m,by go_num,by rw[Aa N,hs];go_num,z,O⟩
      case measure=>simp[intOf];omega
     ·have hs:s1=s0:=by rw[Aa u,if_neg L,Nat.add_zero]
      have e2:(d.kd==1)=false:=by rw[beq_eq_false_iff_ne];exact L
      clear K L u;go_wp2;go_roundw
      case rel=>exact⟨k+1,m,by go_num,by rw[Aa N,hs],z,O⟩
      case measure=>simp[intOf];omega
    ·have D:=Ab ((Aa E) fun p=>x p.2)
     have z:=Ab (Ad (Aa y) o);clear E G J x o;go_wp2;go_ret;exact⟨1,rfl,Aa D,Aa z⟩
  ·obtain rfl:k=n:=by omega
   by_cases q:srcN ds k=1
   ·have D:=Ab (show CU ⟨a,k,c,ds,obj,size,spread,buffer,queue,cache,rate,timeout,target⟩ (planE obj.size size) from .inl ⟨⟨Aa r,Aa J,q⟩,rfl⟩)
    rw[q];clear J q r
    go_wp2_with (first
     |(go_at_call 25;refine(Aa X _).mono ?_;rintro e w1 ⟨rfl,l⟩;obtain rfl:=l.symm;clear l)
     |fail)
    go_ret;exact⟨_,rfl,Aa D,Aa y⟩
   ·have D:=Ab (show CU ⟨a,k,c,ds,obj,size,spread,buffer,queue,cache,rate,timeout,target⟩ 1 from .inr ⟨fun p=>q p.2.2,rfl⟩)
    have e2:(((srcN ds k:Nat):Int) !=1)=true:=by simp;omega
    clear J q r;go_wp2;go_ret;exact⟨1,rfl,Aa D,Aa y⟩
theorem Dg.below(h:Dg w f)(a:Below w.heap.size w w'):Dg w' f:=⟨h.nds.below a,h.len,h.obj,h.rate,h.tos⟩
theorem Dg.node(h:Dg w f){i:Nat}(d:i<f.n):∃b off,f.a=some ⟨b,off,none⟩/\w.cell? ⟨b,off+i*2,none⟩=some (.int .i64 (f.ds.getD i .dflt).kd)/\w.cell? ⟨b,off+i*2+1,none⟩=some (.slice (f.ds.getD i .dflt).a (f.ds.getD i .dflt).n (f.ds.getD i .dflt).c):=by
 obtain⟨b,off,e,j⟩:=h.nds.at d;exact⟨b,off,e,j i d⟩
theorem XX(h:Dg w f)(e:CU f 0)(a:i<f.n):ES w f i/\f.n<=8:=by
 rcases e with⟨hp,b⟩|⟨_,b⟩
 ·obtain⟨⟨l,m,_⟩,d,_⟩:=hp
  obtain⟨u,j,_⟩:=d i a;obtain⟨Z,o,p,r,c⟩:=oQ b.symm;have x:=(h.nds.2.1 i a).1;refine⟨⟨h.nds,a,by omega,by omega,by omega,(h.tos i a).2,h.rate,⟨by omega,by omega,m.1,?_⟩⟩,l.2⟩;rw[o];exact c
 ·exact absurd b (by decide)
structure CX(w0 w:World)(g:Nat)(n:AD)(i:Nat)(kd:Int)(tos:List Int)(k:Nat):Prop where
 nd:Aj w g w0.heap.size n
 low:Below w0.heap.size w0 w
 id:n.id=i
 kd:n.p.kd=kd
 tos:n.p.tos=tos
 rate:n.p.rate<18446744073709551616
 src:∀r,n.src=some r->Bo n.id r
 fr:CW n
 tm:n.t<=k
theorem CX.tabs{kd:Int}{tos:List Int}(h:CX w0 w g n i kd tos k)(ht:Bs w0)(wx:World)(a:Below w0.heap.size w wx):Bs wx:=ht.below (h.low.trans a)
theorem CX.below{kd:Int}{tos:List Int}(h:CX w0 w g n i kd tos k)(a:Below w.heap.size w w'):CX w0 w' g n i kd tos k:=⟨h.nd.below a,Ad h.low a,h.id,h.kd,h.tos,h.rate,h.src,h.fr,h.tm⟩
theorem CX.more{a:Nat}{kd:Int}{tos:List Int}(h:CX w0 w g n i kd tos k)(b:k<=a):CX w0 w g n i kd tos a:=⟨h.nd,h.low,h.id,h.kd,h.tos,h.rate,h.src,h.fr,Nat.le_trans h.tm b⟩
theorem CX.each{kd:Int}{tos:List Int}(h:CX w0 w g n i kd tos k){u:AF->Int×List ByteArray×Nat}(b:Aj w' g w0.heap.size (n.each u))(ht:Tu (BM g n) w w')(a:CW (n.each u)):CX w0 w' g (n.each u) i kd tos (k+1):=
 ⟨b,h.nd.lows h.low (Nat.le_refl _) ht,h.id,h.kd,h.tos,h.rate,h.src,a,Nat.succ_le_succ h.tm⟩
theorem Yj(a:ES w f i)(d:i<=7)(b:Aj w' g w.heap.size n)(h:CF f i n)(c:Below w.heap.size w w'):CX w w' g n i (f.ds.getD i .dflt).kd (f.ds.getD i .dflt).tos 0:=
 ⟨b,c,h.id,h.kd,h.tos,by rw[h.rate];exact a.rate,ZR a d h b,CW.new h.new,by rw[h.tm];exact Nat.le_refl _⟩
theorem nB{kd:Int}{tos:List Int}(h:CX w0 w g n i kd tos k)(ht:Bs w0)(s:ByteArray)(now:Int)(r:s.size<=1048576)(u:k<=1000000):
  Calls Tryz.prog 11 #[.pointer (some ⟨g,0,none⟩),.string s,.int .i64 now] w fun e w'=> ∃(en:Nat) (n':AD),e=.returned (.int .i64 (en:Int))/\CX w0 w' g n' i kd tos (k+1):=
 (NM g w0.heap.size n s now w h.nd (fun wx m=>h.tabs ht wx m) r (by have:=h.tm;omega)).mono fun e w' ⟨en,n',o,d,p,b,_⟩=>by
  obtain⟨j,c,a,l⟩:=h.fr.recv d;exact⟨en,n',o,p,h.nd.lows h.low (Nat.le_refl _) b,c.trans h.id,by rw[a];exact h.kd,by rw[a];exact h.tos,by rw[a];exact h.rate,by rw[l,c];exact h.src,j,Nat.le_trans (PZ d) (Nat.succ_le_succ h.tm)⟩
theorem Yi{kd:Int}{tos:List Int}(h:CX w0 w g n i kd tos k)(ht:Bs w0)(j:i<=7)(a:Option Addr)(dn dc:Nat)(L:List Nat)(now:Int)(m:RowAt w a dn L)(b:dn<=1048576)(u:k<=1000000):
  Calls Tryz.prog 12 #[.pointer (some ⟨g,0,none⟩),.slice a dn dc,.int .i64 now] w fun e w'=> ∃n',e=.returned (.tuple #[])/\CX w0 w' g n' i kd tos (k+1):=
 (LJ g w0.heap.size n a dn dc L now w h.nd (fun wx l=>h.tabs ht wx l) h.src (by rw[h.id];exact j) m b (by have:=h.tm;omega)).mono fun e w' ⟨o,f,p,r,d,c⟩=>
  ⟨_,o,h.each r d (h.fr.act (Yl h.nd (by rw[h.id];exact j) h.src p c))⟩
theorem nC{kd:Int}{tos:List Int}(h:CX w0 w g n i kd tos k)(x:Int):
  Calls Tryz.prog 13 #[.pointer (some ⟨g,0,none⟩),.int .i64 x] w fun e w'=> ∃n',e=.returned (.tuple #[])/\CX w0 w' g n' i kd tos (k+1):=
 (gg g w0.heap.size n x w h.nd).mono fun e w' ⟨b,c,a⟩=>⟨_,b,h.each c a h.fr.tick⟩
def aG(i:Nat)(kd:Int)(tos:List Int)(fs:List Cb):Prop:=fs.length<=2048/\∀q,q<fs.length->(fs.getD q .dflt).fr=(i:Int)/\Gb i kd (fs.getD q .dflt).s/\∃j,j<tos.length/\(fs.getD q .dflt).dst=tos.getD j 0
theorem nA{kd:Int}{tos:List Int}(h:CX w0 w g n i kd tos k):
  Calls Tryz.prog 21 #[.pointer (some ⟨g,0,none⟩)] w fun e w'=> ∃v fs n',e=.returned v/\AW w' w.heap.size v fs/\aG i kd tos fs/\CX w0 w' g n' i kd tos (k+1):=
 (NL g w0.heap.size n w h.nd).mono fun e w' ⟨v,m,u,r,a⟩=>by
  refine⟨v,_,_,m,u,⟨?_,fun q l=>?_⟩,h.each r a h.fr.pump⟩
  ·have y:n.s.ls.length<=8:=by have:=h.nd.num;omega
   exact Nat.le_trans (NZ fun i o=>h.nd.fly o) (by omega)
  ·have p:(flyTo n n.s.ls.length).getD q .dflt∈flyTo n n.s.ls.length:=by
    rw[List.getD_eq_getElem?_getD,List.getElem?_eq_getElem l];exact List.getElem_mem l
   obtain⟨b,c,j,x,d⟩:=VN h.fr _ (Nat.le_refl _) _ p;rw[h.id,h.kd]at c;rw[h.id]at b;rw[h.tos]at d;have:=h.nd.num.2.1;rw[h.tos]at this;exact⟨b,c,j,by omega,d⟩
end Go.Proofs.YtfpfcnfmigaphaaGreatDoor
