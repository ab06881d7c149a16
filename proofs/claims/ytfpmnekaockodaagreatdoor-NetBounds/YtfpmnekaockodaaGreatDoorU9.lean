/- Laws for the proof. -/
import Derived.Test.YtfpmnekaockodaaGreatDoorU8
namespace Go.Proofs.YtfpmnekaockodaaGreatDoor
open Go.RowKit
set_option linter.all false
set_option maxRecDepth 4000
set_option maxHeartbeats 8000000
variable {B l rs:List (List Nat)}{r b xs:List Nat}{M k p n:Nat}{a:Option Addr}{v u:Value}{w w':World}
def val:List Nat->Nat
 |[]=>0
 |x::r=>2^64*val r+x
theorem Ac.tail{x:Nat}(h:Ac (x::r)):Ac r:=fun y c=>h y (List.mem_cons_of_mem _ c)
theorem Ac.nil:Ac []:=fun _ h=>by cases h
theorem CX:∀{xs:List Nat},Ac xs->∀i,(val xs).testBit i=Ai xs i
 |[],_,i=>by simp[val,Ai]
 |x::r,h,i=>by
  have d:x<2^64:=h x List.mem_cons_self;rw[val,Nat.testBit_two_pow_mul_add _ d];unfold Ai;by_cases c:i<64
  ·rw[if_pos c,show i/64=0 by omega,show i%64=i by omega];rfl
  ·rw[if_neg c,CX h.tail,Ai,show i/64=(i-64)/64+1 by omega,show i%64=(i-64)%64 by omega];rfl
theorem Vx(a b:List Nat)(i:Nat):Ai (xorL a b) i=(Ai a i^^Ai b i):=by
 unfold Ai;rw[Du,Nat.testBit_xor]
theorem Xp{a:List Nat}(c:Ac a)(d:Ac b):val (xorL a b)=val a^^^val b:=by
 apply Nat.eq_of_testBit_eq;intro i;rw[CX (L0 c d),Vx,Nat.testBit_xor,CX c,CX d]
theorem XK:val xs=0↔∀x∈xs,x=0:=by
 induction xs with
 |nil=>simp[val]
 |cons x r d=>
  rw[val];constructor
  ·intro h y c
   rcases List.mem_cons.1 c with e|c
   ·omega
   ·exact d.1 (by omega) y c
  ·intro h
   have f:=h x List.mem_cons_self;have g:=d.2 fun y c=>h y (List.mem_cons_of_mem _ c);omega
theorem NR:∀(xs:List Nat),0<=firstI xs->∃k,k<xs.length/\(∀j,j<k->xs.getD j 0=0)/\xs.getD k 0≠0/\firstI xs=(k:Int)*64+Lib.ctz 64 (xs.getD k 0)
 |[],h=>by simp[firstI]at h
 |x::r,h=>by
  by_cases g:x=0
  ·have o:0<=firstI r:=by
    simp only[firstI,g]at h;split at h
    ·omega
    ·split at h
     ·omega
     ·omega
   obtain⟨k,m,q,f,s⟩:=NR r o;have e:∀j,j<k+1->(x::r).getD j 0=0:=by
    intro j i;cases j with
    |zero=>simpa using g
    |succ j=>simpa using q j (by omega)
   have d:k+1<(x::r).length:=by simpa using m
   have c:(x::r).getD (k+1) 0≠0:=by simpa using f
   exact⟨k+1,d,e,c,Ms _ _ d e c⟩
  ·have d:0<(x::r).length:=by simp
   have c:(x::r).getD 0 0≠0:=by simpa using g
   exact⟨0,d,fun j i=>by omega,c,Ms _ _ d (fun j i=>by omega) c⟩
theorem Im(f:Ac xs):firstI xs=if val xs=0 then -1 else(Ech.low (val xs):Int):=by
 rcases RX xs with h|h
 ·have d:=XK.2 ((RB xs).1 (by omega))
  rw[h,if_pos d]
 ·obtain⟨k,C,z,c,s⟩:=NR xs h
  have g:=f.get k;have q:=M6 (xs.getD k 0) c g;have o:=WW (xs.getD k 0) c g;have y:=fun j x=>WX (xs.getD k 0) j c g x;generalize Lib.ctz 64 (xs.getD k 0)=t at*;have d:(val xs).testBit (64*k+t)=true:=by rw[CX f,MQ xs k t q];exact o
  have m:∀j,j<64*k+t->(val xs).testBit j=false:=fun i A=>by
   rw[CX f];unfold Ai;by_cases e:i/64<k
   ·rw[z _ e];simp
   ·rw[show i/64=k by omega];exact y _ (by omega)
  rw[if_neg (Ech.ne_of_bit d),Ech.low_unique d m,s];omega
theorem TM(d:Ac xs):firstI xs<64*(xs.length:Int)/\ -1<=firstI xs:=by
 rcases RX xs with h|h
 ·omega
 ·obtain⟨k,g,i,c,f⟩:=NR xs h
  have e:=M6 (xs.getD k 0) c (d.get k);omega
theorem IY(c:Ac xs):firstI xs<0↔val xs=0:=by
 rw[Im c];split
 ·rename_i h;simp[h]
 ·rename_i h
  constructor
  ·intro k;omega
  ·intro k;exact absurd k h
theorem Po{c:List Nat}(d:Ac xs)(e:Ac c):E8 xs (firstI c)=(decide (val c≠0)&&(val xs).testBit (Ech.low (val c))):=by
 rw[Im e];split
 ·rename_i h;simp[h,E8]
 ·rename_i h
  rw[MB,CX d];simp[h]
def C5(r b:List Nat):List Nat:=if E8 r (firstI b)=true then xorL r b else r
def reduceL(B:List (List Nat))(v:List Nat):List Nat:=B.foldl C5 v
theorem LX(c:Ac r)(d:Ac b):Ac (C5 r b):=by
 unfold C5;split
 ·exact L0 c d
 ·exact c
theorem Pj(f:Ac r)(e:Ac b):val (C5 r b)=if val b≠0/\(val r).testBit (Ech.low (val b))=true then val r^^^val b else val r:=by
 unfold C5;rw[Po f e];by_cases c:val b=0
 ·simp[c]
 ·by_cases d:(val r).testBit (Ech.low (val b))=true
  ·simp[c,d,Xp f e]
  ·simp[c,d]
theorem SO(r b:List Nat)(M:Nat)(c:r.length<=M)(d:b.length<=M):(C5 r b).length<=M:=by
 unfold C5;split
 ·rw[BY];omega
 ·exact c
def AC(M:Nat)(B:List (List Nat)):Prop:=∀b∈B,Ac b/\b.length<=M
theorem AC.nil(M:Nat):AC M []:=fun _ h=>by cases h
theorem AC.tail(h:AC M (b::B)):AC M B:=fun a c=>h a (List.mem_cons_of_mem _ c)
theorem EZ{M:Nat}:∀{B:List (List Nat)},AC M B->∀{v:List Nat},Ac v->v.length<=M->Ac (reduceL B v)/\(reduceL B v).length<=M
 |[],_,v,d,c=>⟨d,c⟩
 |b::B,h,v,d,c=>by
  have e:=h b List.mem_cons_self;exact EZ h.tail (LX d e.1) (SO v b M c e.2)
theorem In{M:Nat}:∀{B:List (List Nat)},AC M B->∀{v:List Nat},Ac v->val (reduceL B v)=Ech.red (B.map val) (val v)
 |[],_,v,c=>rfl
 |b::B,h,v,c=>by
  have d:=h b List.mem_cons_self;show val (reduceL B (C5 v b))=Ech.red (B.map val) _;rw[In h.tail (LX c d.1),Pj c d.1]
theorem et{v:List Nat}(h:k<B.length):reduceL (B.take (k+1)) v=C5 (reduceL (B.take k) v) (B.getD k []):=by
 unfold reduceL;rw[List.take_succ_eq_append_getElem h,List.foldl_append];simp[List.getD_eq_getElem?_getD,List.getElem?_eq_getElem h]
theorem ii{v:List Nat}(h:B.length<=k):reduceL (B.take k) v=reduceL B v:=by rw[List.take_of_length_le h]
def G1(f:Int):List (List Nat)->Nat
 |[]=>0
 |b::B=>if f<firstI b then 0 else G1 f B+1
theorem P7(f:Int):∀B,G1 f B<=B.length
 |[]=>Nat.le_refl _
 |b::B=>by
  simp only[G1];split
  ·exact Nat.zero_le _
  ·have:=P7 f B;simp only[List.length_cons];omega
def FM(r:List Nat)(p:Nat)(C:List (List Nat)):List (List Nat):=C.take p++r::C.drop p
theorem NE(r:List Nat)(p:Nat)(C:List (List Nat))(h:p<=C.length):(FM r p C).length=C.length+1:=by
 simp[FM];omega
theorem ly{C:List (List Nat)}{x:List Nat}:x∈FM r p C↔x=r\/x∈C:=by
 unfold FM;rw[List.mem_append,List.mem_cons];constructor
 ·rintro(h|h|h)
  ·exact .inr (List.mem_of_mem_take h)
  ·exact .inl h
  ·exact .inr (List.mem_of_mem_drop h)
 ·rintro(h|h)
  ·exact .inr (.inl h)
  ·rw[<-List.take_append_drop p C,List.mem_append]at h
   rcases h with h|h
   ·exact .inl h
   ·exact .inr (.inr h)
theorem pj{a:List Nat}(d:Ac a)(e:Ac b)(h:val a≠0):firstI a<firstI b↔Ech.low (val a)<Ech.low (val b):=by
 rw[Im d,Im e,if_neg h];split
 ·rename_i c
  rw[c];have:Ech.low 0=0:=rfl;omega
 ·omega
theorem Xc{M:Nat}{r:List Nat}(g:Ac r)(e:val r≠0):∀{C:List (List Nat)},AC M C->(FM r (G1 (firstI r) C) C).map val=Ech.put (val r) (C.map val)
 |[],_=>rfl
 |c::C,h=>by
  have i:=h c List.mem_cons_self;have f:=pj g i.1 e;simp only[G1,List.map_cons,Ech.put];by_cases d:firstI r<firstI c
  ·rw[if_pos d,if_pos (f.1 d)];rfl
  ·rw[if_neg d,if_neg (fun k=>d (f.2 k)),<-Xc g e h.tail];rfl
def CL(B:List (List Nat))(v:List Nat):List (List Nat):=
 if firstI (reduceL B v)<0 then B else FM (reduceL B v) (G1 (firstI (reduceL B v)) (B.map fun b=>C5 b (reduceL B v))) (B.map fun b=>C5 b (reduceL B v))
def Ls(B:List (List Nat))(v:List Nat):List (List Nat):=
 if firstI (reduceL B v)<0 then B else FM (reduceL B v) (G1 (firstI (reduceL B v)) B) (B.map fun b=>C5 b (reduceL B v))
theorem AC.map(h:AC M B){r:List Nat}(e:Ac r)(d:r.length<=M):AC M (B.map fun b=>C5 b r):=by
 intro x f;obtain⟨b,c,rfl⟩:=List.mem_map.1 f;exact⟨LX (h b c).1 e,SO b r M (h b c).2 d⟩
theorem AC.insert(h:AC M B){v:List Nat}(i:Ac v)(g:v.length<=M):AC M (CL B v):=by
 obtain⟨d,f⟩:=EZ h i g;unfold CL;split
 ·exact h
 ·intro x c
  rcases ly.1 c with e|c
  ·rw[e];exact⟨d,f⟩
  ·exact h.map d f x c
theorem dt(B:List (List Nat))(v:List Nat):(CL B v).length<=B.length+1:=by
 unfold CL;split
 ·omega
 ·rw[NE _ _ _ (P7 _ _),List.length_map];exact Nat.le_refl _
theorem X6(h:AC M B){r:List Nat}(f:Ac r)(d:val r≠0):(B.map fun b=>C5 b r).map val=(B.map val).map (Ech.upd (val r)):=by
 rw[List.map_map,List.map_map];apply List.map_congr_left;intro b e;show val (C5 b r)=Ech.upd (val r) (val b);rw[Pj (h b e).1 f];unfold Ech.upd;by_cases c:(val b).testBit (Ech.low (val r))=true
 ·rw[if_pos ⟨d,c⟩,if_pos c]
 ·rw[if_neg (fun k=>c k.2),if_neg c]
theorem fj(h:AC M B){v:List Nat}(e:Ac v)(g:v.length<=M):(CL B v).map val=Ech.ins (B.map val) (val v):=by
 obtain⟨d,f⟩:=EZ h e g;unfold CL Ech.ins;rw[<-In h e];by_cases c:val (reduceL B v)=0
 ·rw[if_pos ((IY d).2 c),if_pos c]
 ·rw[if_neg (fun k=>c ((IY d).1 k)),if_neg c,Xc d c (h.map d f),X6 h d c]
theorem Ss(f:Int):∀{B C:List (List Nat)},B.map firstI=C.map firstI->G1 f B=G1 f C
 |[],[],_=>rfl
 |[],c::C,h=>by simp at h
 |b::B,[],h=>by simp at h
 |b::B,c::C,h=>by
  simp only[List.map_cons,List.cons.injEq]at h;simp only[G1,h.1,Ss f h.2]
theorem YV(h:AC M B)(j:Ech.Red (B.map val)){v:List Nat}(i:Ac v)(q:v.length<=M):Ls B v=CL B v:=by
 obtain⟨g,s⟩:=EZ h i q;unfold Ls CL;by_cases d:firstI (reduceL B v)<0
 ·rw[if_pos d,if_pos d]
 ·rw[if_neg d,if_neg d]
  have e:val (reduceL B v)≠0:=fun k=>d ((IY g).2 k);rw[Ss (B:=B) (C:=B.map fun b=>C5 b (reduceL B v))];rw[List.map_map];apply List.map_congr_left;intro b f;show firstI b=firstI (C5 b (reduceL B v));have m:=Ech.upd_low j (v:=val v) (b:=val b) (by rw[<-In h i];exact e) (List.mem_map.2 ⟨b,f,rfl⟩);have o:val (C5 b (reduceL B v))=Ech.upd (Ech.red (B.map val) (val v)) (val b):=by
   rw[<-In h i,Pj (h b f).1 g];unfold Ech.upd;by_cases c:(val b).testBit (Ech.low (val (reduceL B v)))=true
   ·rw[if_pos ⟨e,c⟩,if_pos c]
   ·rw[if_neg (fun k=>c k.2),if_neg c]
  rw[Im (h b f).1,Im (LX (h b f).1 g),o,if_neg m.2,m.1,if_neg (j.1 _ (List.mem_map.2 ⟨b,f,rfl⟩))]
def Cj(l:List (List Nat)):List (List Nat):=l.foldl CL []
theorem NU{M:Nat}:∀(l B:List (List Nat)),AC M l->AC M B->Ech.Red (B.map val)->AC M (l.foldl CL B)/\(l.foldl CL B).map val=(l.map val).foldl Ech.ins (B.map val)/\l.foldl Ls B=l.foldl CL B/\(l.foldl CL B).length<=B.length+l.length
 |[],B,_,d,_=>⟨d,rfl,rfl,by simp⟩
 |v::l,B,g,d,e=>by
  have c:=g v List.mem_cons_self;have f:=fj d c.1 c.2;obtain⟨h,i,j,m⟩:=NU l (CL B v) g.tail (d.insert c.1 c.2) (by rw[f];exact e.ins _);refine⟨h,?_,?_,?_⟩
  ·show(l.foldl CL (CL B v)).map val=_
   rw[i,f];rfl
  ·show l.foldl Ls (Ls B v)=l.foldl CL (CL B v)
   rw[YV d e c.1 c.2,j]
  ·show(l.foldl CL (CL B v)).length<=_
   have:=dt B v;simp only[List.length_cons];omega
theorem TA(h:AC M l):AC M (Cj l):=(NU l [] h (.nil M) .nil).1
theorem Kx(h:AC M l):(Cj l).map val=Ech.basis (l.map val):=(NU l [] h (.nil M) .nil).2.1
theorem jf(h:AC M l):Ech.Red ((Cj l).map val):=by rw[Kx h];exact Ech.red_basis _
theorem AC.take(h:AC M B)(k:Nat):AC M (B.take k):=fun b c=>h b (List.mem_of_mem_take c)
theorem fZ(h:k<l.length):Cj (l.take (k+1))=CL (Cj (l.take k)) (l.getD k []):=by
 unfold Cj;rw[List.take_succ_eq_append_getElem h,List.foldl_append];simp[List.getD_eq_getElem?_getD,List.getElem?_eq_getElem h]
theorem AC.getD(h:AC M B)(i:Nat):Ac (B.getD i [])/\(B.getD i []).length<=M:=by
 rw[List.getD_eq_getElem?_getD];cases c:B[i]? with
 |none=>exact⟨Ac.nil,Nat.zero_le _⟩
 |some x=>exact h x (List.mem_of_getElem? c)
theorem Mq:Tryz.prog.underlying 40=some (.slice (Tryz.prog.elem 40)):=by kernel_rfl
theorem Sj:Tryz.prog.elem 40=265:=by kernel_rfl
theorem UQ(a:Option Addr)(n c q:Nat)(e:q<=c)(w:World):
  (Instr.sliceAt 40 (.slice a n c) none (some (.int .i64 (q:Int))) none).run Tryz.prog w=.ok (.slice a q c) w:=by
 have d:∀w:World,(sizeOf 265).run Tryz.prog w=.ok 1 w:=fun w=>by kernel_rfl
 rw[run_sliceAt_slice _ _ _ _ _ _ Mq,run_slice_h _ _ _ _ _ Mq _ _ (by omega) (by omega),Sj,d];cases a<;>simp[Result.andThen,sliced,Addr.add]
theorem RowAt.take(h:RowAt w a n xs){k:Nat}(g:k<=n):RowAt w a k (xs.take k):=by
 refine⟨by rw[List.length_take,h.1];omega,fun x e=>h.2.1 x (List.mem_of_mem_take e),?_⟩;rcases h.2.2 with f|⟨b,off,rfl,c⟩
 ·left;omega
 ·refine .inr ⟨b,off,rfl,fun i d=>?_⟩
  rw[c i (by omega),List.getD_eq_getElem?_getD,List.getD_eq_getElem?_getD,List.getElem?_take_of_lt d]
def Bi(w w':World)(u v:Value):Prop:=w.grownBy w' u.ownBlock/\(v.ownBlock=u.ownBlock\/∀k,v.ownBlock=some k->w.heap.size<=k)
def Er(u v:Value):Prop:=u.ownBlock=none\/u.ownBlock≠v.ownBlock
theorem Er.symm(h:Er u v):Er v u:=by
 rcases h with h|h
 ·by_cases e:v.ownBlock=none
  ·exact .inl e
  ·exact .inr (by rw[h];exact e)
 ·exact .inr fun e=>h e.symm
theorem ol(B:Nat)(a:Option Addr)(c:Nat)(xs:List Nat)(H:Option Addr)(m S:Nat)(d:List Nat)(w:World)(o:Own w B (.slice a xs.length c) xs)(Y:B<=w.heap.size)(h:RowAt w H m d)
  (f:m=0\/∀Q,H=some Q->some Q.block≠(Value.slice a xs.length c).ownBlock) (hn:xs.length<=1048576) (hm:m<=1048576):
  Calls Tryz.prog 293 #[.slice a xs.length c,.slice H m S] w fun e w'=> ∃v,e=.returned v/\Own w' B v (xorL xs d)/\Bi w w' (.slice a xs.length c) v:=by
 obtain rfl:m=d.length:=h.1.symm;have q:RowAt w a xs.length xs:=by
  obtain⟨a1,c1,e,q⟩:=o.row;simp only[Value.slice.injEq]at e;rw[e.1];exact q
 by_cases ac:xs.length<d.length
 ·have N:((xs.length:Int)<(d.length:Int)):=by omega
  have W:=Ab (Jf a xs.length c xs H d.length S d w q h hn hm);clear q h f;go_enter Tryz.func293,Tryz.ntmps293;go_wp2_with (go_at_call 274;refine(Aa W).mono ?_;rintro e w1 ⟨v,rfl,E,Z⟩);go_ret;exact⟨_,rfl,E.mono Y,CN Z _,.inr fun k T=>(E.lt T).1⟩
 ·have N:¬((xs.length:Int)<(d.length:Int)):=by omega
  go_enter Tryz.func293,Tryz.ntmps293;go_wp2;go_loopw [17] (fun i wr=> ∃k:Nat,k<=d.length/\i=.int .i64 k/\Hid (Own wr B (.slice a xs.length c) (Dg xs d k))/\Hid (w.grownBy wr (Value.slice a xs.length c).ownBlock)) (fun i _=>d.length-(intOf i).toNat)
  case atStart=>exact⟨0,Nat.zero_le _,rfl,Ab (by rw[KG];exact o),Ab (Gn _ _)⟩
  case round=>
   obtain⟨k,T,rfl,s,J⟩:=hrel;by_cases D:k<d.length
   ·obtain⟨b',V,rfl,z⟩:=(h.kept (Aa J) f).at D
    have P:k<xs.length:=by omega
    obtain⟨g,cap,L,K,ab,A,C⟩:=(Aa s).at (by rw[Cd];omega);rw[Cd]at L;simp only[Value.slice.injEq,true_and]at L;obtain⟨rfl,rfl⟩:=L;have I:=z k D;have j:=A k (by rw[Cd];omega);have aa:=C k;rw[Hd xs d k k (by omega),if_neg (by omega)]at j;have ae:=u64_xor_nat (xs.getD k 0) (d.getD k 0) (o.1.get k) (h.2.1.get k);have R:=Ab (O3 o.1 h.2.1 P K (Aa s) (Below.refl B _)).1;have X:=Ab (fun u=>BD (Aa J) (BF _ g k u) (.inl rfl));generalize xs.getD k 0=x at*;generalize d.getD k 0=y at*;clear z A C h s q o f;go_wp2;go_roundw
    case rel=>exact⟨k+1,by omega,by go_num,R,Ab (Aa X _)⟩
    case measure=>simp[intOf];omega
   ·have O:k=d.length:=by omega
    subst O;rw[KQ xs d (by omega)]at s;clear q h f o;go_wp2;go_ret;exact⟨_,rfl,Aa s,Aa J,.inl rfl⟩
theorem Y1(w:World):RowAt w none 0 []:=⟨rfl,(fun _ h=>by cases h),.inl rfl⟩
theorem nX(a:List Nat):xorL a []=a:=by
 apply Ei
 ·rw[BY];simp
 ·intro i _;rw[Du];simp
theorem ZD(a:Option Addr)(n c:Nat)(xs:List Nat)(w:World)(h:RowAt w a n xs)(j:n<=1048576):
  Calls Tryz.prog 260 #[.slice a n c] w fun e w'=> ∃v,e=.returned v/\Own w' w.heap.size v xs/\Below w.heap.size w w':=by
 have f:=Jf a n c xs none 0 0 [] w h (Y1 w) j (by omega);rw[nX]at f;have g:=Ab f;clear f h;go_enter Tryz.func260,Tryz.ntmps260;go_wp2_with (go_at_call 274;refine(Aa g).mono ?_;rintro e w1 ⟨v,rfl,d,i⟩);go_ret;exact⟨_,rfl,d,i⟩
def CA(w:World)(lo p:Nat)(a:Option Addr)(n c:Nat):Prop:=lo<=p/\w.cell? ⟨p,0,none⟩=some (.slice a n c)
theorem CA.below{lo:Nat}{c:Nat}(h:CA w lo p a n c)(d:Below w.heap.size w w'):CA w' lo p a n c:=
 ⟨h.1,(d.cell (World.block_lt_of_cell? w _ h.2)).trans h.2⟩
theorem CA.kept{lo:Nat}{c:Nat}{row:Option Nat}(h:CA w lo p a n c)(d:w.grownBy w' row)(hp:some p≠row):CA w' lo p a n c:=
 ⟨h.1,d.cell h.2 hp⟩
theorem aJ(a:Option Addr)(n c:Nat)(w:World):
  Calls Tryz.prog 261 #[.slice a n c] w fun e w'=>e=.returned (.func (.func 292) #[] #[.pointer (some ⟨w.heap.size,0,none⟩)])/\
   CA w' w.heap.size w.heap.size a n c/\Below w.heap.size w w':=by
 have f:∀(d:Fn) (first cap:Array Value) (w:World),(Instr.makeFunc d first cap).run Tryz.prog w=.ok (.func d first cap) w:=fun _ _ _ _=>rfl;go_enter Tryz.func261,Tryz.ntmps261;go_wp2;go_ret;refine⟨rfl,⟨Nat.le_refl _,?_⟩,(Below.refl _ _).alloc (Nat.le_refl _) _⟩;rw[World.cell?_alloc_at _ _ _ _ rfl];rfl
theorem Bi.after{w1 w2:World}(c:Below w.heap.size w w1)(h:Bi w1 w2 u v):Bi w w2 u v:=
 ⟨BD (CN c _) h.1 (.inl rfl),h.2.imp id fun k j d=>Nat.le_trans c.size (k j d)⟩
theorem Bi.same(w:World)(u:Value):Bi w w u u:=⟨Gn _ _,.inl rfl⟩
theorem Bi.below{B:Nat}(h:Bi w w' u v)(e:Own w B u xs)(c:B<=w.heap.size):Below B w w':=CK h.1 c fun k d=>(e.lt d).1
theorem lp(xs:List Nat)(k j:Nat):Ai (xs.take k) j=(decide (j<64*k)&&Ai xs j):=by
 unfold Ai;rw[List.getD_eq_getElem?_getD,List.getD_eq_getElem?_getD,List.getElem?_take];by_cases h:j/64<k
 ·rw[if_pos h,show decide (j<64*k)=true by simp;omega];simp
 ·rw[if_neg h,show decide (j<64*k)=false by simp;omega];simp
theorem lf{c:List Nat}(s:Ac xs)(z:Ac c){k:Nat}(q:k=xs.length\/c.length<=k):E8 xs (firstI (c.take k))=E8 xs (firstI c):=by
 rcases q with rfl|q
 ·have A:Ac (c.take xs.length):=fun x h=>z x (List.mem_of_mem_take h)
  have m:∀j,(val (c.take xs.length)).testBit j=(decide (j<64*xs.length)&&(val c).testBit j):=fun j=>by rw[CX A,CX z,lp]
  have y:∀j,64*xs.length<=j->(val xs).testBit j=false:=fun j o=>by rw[CX s,E1 xs j o]
  rw[Po s A,Po s z];by_cases f:val (c.take xs.length)=0
  ·rw[f]
   by_cases d:val c=0
   ·rw[d]
   ·have i:64*xs.length<=Ech.low (val c):=by
     rcases Nat.lt_or_ge (Ech.low (val c)) (64*xs.length)with e|e
     ·have g:=m (Ech.low (val c))
      rw[f,Ech.low_bit d,decide_eq_true e]at g;simp at g
     ·exact e
    rw[y _ i];simp
  ·have d:=Ech.low_bit f
   rw[m]at d;have i:Ech.low (val (c.take xs.length))<64*xs.length:=by
    rcases Nat.lt_or_ge (Ech.low (val (c.take xs.length))) (64*xs.length)with e|e
    ·exact e
    ·rw[decide_eq_false (by omega)]at d;simp at d
   rw[decide_eq_true i,Bool.true_and]at d
   have e:Ech.low (val c)=Ech.low (val (c.take xs.length)):=Ech.low_unique d fun j o=>by
    have g:=Ech.low_none f o;rw[m,decide_eq_true (by omega),Bool.true_and]at g;exact g
   rw[e,decide_eq_true (Ech.ne_of_bit d),decide_eq_true f]
 ·rw[List.take_of_length_le q]
theorem ke(B lo p:Nat)(a:Option Addr)(c:Nat)(xs:List Nat)(y:Option Addr)(m E:Nat)(i:List Nat)(w:World)(ht:Tab w)(I:Own w B (.slice a xs.length c) xs)(Z:B<=w.heap.size)(z:RowAt w y m i)
  (o:CA w lo p y m E) (ab:m<=E) (x:m=0\/∀T,y=some T->some T.block≠(Value.slice a xs.length c).ownBlock) (V:xs.length<=1048576) (hm:m<=1048576):
  Calls Tryz.prog 292 #[.slice a xs.length c,.pointer (some ⟨p,0,none⟩)] w fun e w'=> ∃v,e=.returned v/\Own w' B v (C5 xs i)/\Bi w w' (.slice a xs.length c) v:=by
 have A:RowAt w a xs.length xs:=by
  obtain⟨a1,c1,e,A⟩:=I.row;simp only[Value.slice.injEq]at e;rw[e.1];exact A
 have ac:=z.1;obtain⟨k,N,H,s⟩:∃k:Nat,k<=m/\(k=xs.length\/i.length<=k)/\(if (xs.length:Int)<(m:Int)then(xs.length:Int)else(m:Int))=(k:Int):=by
  by_cases aa:xs.length<m
  ·exact⟨xs.length,by omega,.inl rfl,by rw[if_pos (by omega)]⟩
  ·exact⟨m,Nat.le_refl _,.inr (by omega),by rw[if_neg (by omega)]⟩
 have O:∀(W:Array TypeId) (t:TypeId) (w:World),(Builtin.min_ W t #[.int .i64 (m:Int),.int .i64 (xs.length:Int)]).run Tryz.prog w=.ok (.int .i64 (k:Int)) w:=fun W t w=>by rw[run_min_int2,s]
 clear s;have ae:=UQ y m E k (by omega);have hcut:=lf A.2.1 z.2.1 H;have q:=z.take N;have L:=TM q.2.1;rw[q.1]at L;have J:=Ab (JE y k E (i.take k) w ht q (by omega));have D:=Ab (MR a xs.length c xs (firstI (i.take k)) w A V (by omega));have hq:=o.2;have j:C5 xs i=if E8 xs (firstI i)=true then xorL xs i else xs:=rfl;rw[<-hcut]at j;clear hcut q H;cases g:E8 xs (firstI (i.take k))with
 |false=>
  rw[g]at D j;rw[if_neg (by decide)]at j;rw[j];have Y:=Ab I;clear I z A o j g x;generalize firstI (i.take k)=f at*;go_enter Tryz.func292,Tryz.ntmps292;go_wp2_with fail;refine(Aa J).mono ?_;rintro e w1 ⟨rfl,C⟩;obtain rfl:=C.symm;go_wp2_with (go_at_call 238;refine(Aa D).mono ?_;rintro e w1 ⟨rfl,d,rfl⟩);go_ret;have h:Below w.heap.size w (w.drewN d):=below_drewN (Below.refl _ _) d;exact⟨_,rfl,(Aa Y).below h,(Bi.same _ _).after h⟩
 |true=>
  rw[g]at D j;rw[if_pos rfl]at j;rw[j];clear j g A;have S:=Ab (fun w1 (h:Below w.heap.size w w1)=>ol B a c xs y m E i w1 (I.below h) (Nat.le_trans Z h.size) (z.below h) x V hm);have R:=Ab (fun w1 (h:Below w.heap.size w w1)=>(o.below h).2);clear I z o x;generalize firstI (i.take k)=f at*;go_enter Tryz.func292,Tryz.ntmps292;go_wp2_with fail;refine(Aa J).mono ?_;rintro e w1 ⟨rfl,C⟩;obtain rfl:=C.symm;go_wp2_with fail;refine(Aa D).mono ?_;rintro e w1 ⟨rfl,d,C⟩;have h:Below w.heap.size w w1:=by rw[C];exact below_drewN (Below.refl _ _) d
  have hp:=Aa R w1 h;have K:=Ab (Aa S w1 h);have X:=Ab h;clear C h S R D J hq ht;go_wp2_with (go_at_call 293;refine(Aa K).mono ?_;rintro e w2 ⟨v,rfl,P,Q⟩);go_ret;exact⟨_,rfl,P,Q.after (Aa X)⟩
def cO(w:World)(a:Option Addr)(n:Nat):Prop:=∀b off i d k c,a=some ⟨b,off,none⟩->i<n->w.cell? ⟨b,off+i,none⟩=some (.slice d k c)->k<=c
def VecsAt(w:World)(a:Option Addr)(n:Nat)(rs:List (List Nat)):Prop:=
 rs.length=n/\(n=0\/∃b off,a=some ⟨b,off,none⟩/\∀i,i<n->∃c d,w.cell? ⟨b,off+i,none⟩=some (.slice c (rs.getD i []).length d)/\RowAt w c (rs.getD i []).length (rs.getD i []))/\cO w a n
theorem VecsAt.cap{b off i c:Nat}{d:Option Addr}(h:VecsAt w (some ⟨b,off,none⟩) n rs)(f:i<n)(e:w.cell? ⟨b,off+i,none⟩=some (.slice d k c)):k<=c:=h.2.2 b off i d k c rfl f e
theorem VecsAt.at(h:VecsAt w a n rs){i:Nat}(f:i<n):
  ∃b off,a=some ⟨b,off,none⟩/\∀i,i<n->∃c e,w.cell? ⟨b,off+i,none⟩=some (.slice c (rs.getD i []).length e)/\RowAt w c (rs.getD i []).length (rs.getD i []):=by
 rcases h.2.1 with d|d
 ·omega
 ·exact d
theorem VecsAt.below(h:VecsAt w a n rs)(m:Below w.heap.size w w'):VecsAt w' a n rs:=by
 refine⟨h.1,?_,fun b off i f k g e d o=>?_⟩
 ·rcases h.2.1 with y|⟨b,off,rfl,o⟩
  ·exact .inl y
  ·refine .inr ⟨b,off,rfl,fun i d=>?_⟩
   obtain⟨f,g,c,s⟩:=o i d;exact⟨f,g,(m.cell (World.block_lt_of_cell? w _ c)).trans c,s.below m⟩
 ·obtain⟨C,x,j,q⟩:=h.at d
  rw[e]at j;simp only[Option.some.injEq,Addr.mk.injEq,and_true]at j;obtain⟨rfl,rfl⟩:=j;obtain⟨A,c2,c,s⟩:=q i d;have z:=(m.cell (World.block_lt_of_cell? w _ c)).trans c;exact h.2.2 b off i f k g e d (by rw[c,<-z,o])
theorem VecsAt.small(h:VecsAt w a n rs)(i:Nat):Ac (rs.getD i []):=by
 by_cases c:i<n
 ·obtain⟨b,off,_,e⟩:=h.at c
  obtain⟨f,g,_,d⟩:=e i c;exact d.2.1
 ·rw[List.getD_eq_getElem?_getD,List.getElem?_eq_none (by rw[h.1];omega)]
  exact Ac.nil
theorem VecsAt.fit(h:VecsAt w a n rs){M:Nat}(f:∀i,i<n->(rs.getD i []).length<=M):AC M rs:=by
 intro b g;obtain⟨i,e,rfl⟩:=List.getElem_of_mem g;have c:=h.small i;have d:=f i (by rw[<-h.1];exact e);simp only[List.getD_eq_getElem?_getD,List.getElem?_eq_getElem e,Option.getD_some]at c d;exact⟨c,d⟩
theorem N8(a:Option Addr)(n c:Nat)(rs:List (List Nat))(W:Option Addr)(m c':Nat)(xs:List Nat)(w:World)(ht:Tab w)(h:VecsAt w a n rs)(hf:AC 1048576 rs)(R:RowAt w W m xs)(hn:n<=1048576)(hm:m<=1048576):
  Calls Tryz.prog 221 #[.slice a n c,.slice W m c'] w fun e w'=> ∃v,e=.returned v/\Own w' w.heap.size v (reduceL rs xs)/\Below w.heap.size w w':=by
 have ag:∀(fn:Fn) (first cap:Array Value) (w:World),(Instr.makeFunc fn first cap).run Tryz.prog w=.ok (.func fn first cap) w:=fun _ _ _ _=>rfl;obtain rfl:m=xs.length:=R.1.symm;have H:=Ab (ZD W _ c' xs w R hm);have ab:=R.2.1;clear R;go_enter Tryz.func221,Tryz.ntmps221;go_wp2_with fail;refine(Aa H).mono ?_;rintro e w1 ⟨v,rfl,ho,hb⟩;obtain⟨P,c1,rfl,_⟩:=ho.row;go_wp2;go_loopw [5,12] (fun r i wr=> ∃k:Nat,k<=n/\i=.int .i64 k/\∃P c1,r=.slice P (reduceL (rs.take k) xs).length c1/\Hid (Own wr w.heap.size (.slice P (reduceL (rs.take k) xs).length c1) (reduceL (rs.take k) xs))/\Hid (Below w.heap.size w wr)) (fun _ i _=>n-(intOf i).toNat)
 case atStart=>exact⟨0,Nat.zero_le _,rfl,P,c1,rfl,Ab ho,Ab hb⟩
 case round=>
  obtain⟨k,hk,rfl,a2,c2,rfl,O,S⟩:=hrel;clear ho hb H;by_cases d:k<n
  ·have I:=Aa S
   obtain⟨b,off,rfl,hc⟩:=(h.below I).at d;obtain⟨X,ci,f,x⟩:=hc k d;have g:RowAt w X (rs.getD k []).length (rs.getD k []):=by
    obtain⟨b2,ac,Q,Y⟩:=h.at d;simp only[Option.some.injEq,Addr.mk.injEq,and_true]at Q;obtain⟨rfl,rfl⟩:=Q;obtain⟨ae,af,g1,g2⟩:=Y k d;have:=(I.cell (World.block_lt_of_cell? w _ g1)).trans g1;rw[f]at this;simp only[Option.some.injEq,Value.slice.injEq,true_and]at this;rw[this.1];exact g2
   have Z:=(hf.getD k).2;have aa:=EZ (hf.take k) ab hm;have HE:=Ab (et (v:=xs) (show k<rs.length by rw[h.1];exact d));have L:=(h.below I).cap d f;have D:=Ab (aJ X (rs.getD k []).length ci wr);have C:=g.lt;have HR:=Ab x;clear hc x g h;generalize rs.getD k []=y at*;generalize reduceL (rs.take k) xs=r at*;go_wp2_with fail;refine(Aa D).mono ?_;rintro e w2 ⟨rfl,K,o⟩;have q:=(Aa O).below o;have j:=Ad I o;have HS:=Ab (ke w.heap.size _ _ a2 c2 r X y.length ci y w2 (ht.below j) q j.size ((Aa HR).below o) K L (C.imp id fun C ad e Q=>by have:=C ad e;have:=(q.lt Q.symm).1;omega) aa.2 Z);have E:=Ab q;have z:=Ab j;clear K o q j O S D HR I;go_wp2_with fail;refine(Aa HS).mono ?_;rintro e w3 ⟨v,rfl,s,N⟩;have J:=(Aa z).trans (N.below (Aa E) (Aa z).size);obtain⟨a3,c3,rfl,_⟩:=s.row;rw[<-Aa HE];rw[<-Aa HE]at s;have V:=Ab s;have T:=Ab J;clear s J N HS E z;go_wp2;go_roundw
   case rel=>exact⟨k+1,by omega,by go_num,a3,c3,rfl,V,T⟩
   case measure=>simp[intOf];omega
  ·have A:reduceL (rs.take k) xs=reduceL rs xs:=ii (by rw[h.1];omega)
   rw[A]at O;rw[A];clear h A;go_wp2;go_ret;exact⟨_,rfl,Aa O,Aa S⟩
end Go.Proofs.YtfpmnekaockodaaGreatDoor
