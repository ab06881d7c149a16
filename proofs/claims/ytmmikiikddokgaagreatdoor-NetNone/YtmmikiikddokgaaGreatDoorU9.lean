/-
  Laws that the proof stands on.
-/
import Derived.Test.YtmmikiikddokgaaGreatDoorU8
import Derived.Lib.Overlaps
import Derived.Laws.Externs
namespace Go.Proofs.YtmmikiikddokgaaGreatDoor
open Go.RowKit Go.Sort
set_option linter.unusedVariables false
set_option linter.unusedSimpArgs false
set_option maxRecDepth 4000
set_option maxHeartbeats 8000000
variable {l rs:List (List Nat)}{r b xs:List Nat}{vs l0:List Value}{M B k p n lo c:Nat}{a:Option Addr}{v u:Value}{w w':World}
def val:List Nat->Nat
 |[]=>0
 |x::r=>2^64*val r+x
theorem Ac.tail{x:Nat}(h:Ac (x::r)):Ac r:=fun y d=>h y (List.mem_cons_of_mem _ d)
theorem Ac.nil:Ac []:=fun _ h=>by cases h
theorem CW:∀{xs:List Nat},Ac xs->∀i,(val xs).testBit i=Ai xs i
 |[],_,i=>by simp[val,Ai]
 |x::r,h,i=>by
  have e:x<2^64:=h x List.mem_cons_self;rw[val,Nat.testBit_two_pow_mul_add _ e];unfold Ai;by_cases d:i<64
  ·rw[if_pos d,show i/64=0 by omega,show i%64=i by omega];rfl
  ·rw[if_neg d,CW h.tail,Ai,show i/64=(i-64)/64+1 by omega,show i%64=(i-64)%64 by omega];rfl
theorem UI(a b:List Nat)(i:Nat):Ai (xorL a b) i=(Ai a i^^Ai b i):=by
 unfold Ai;rw[Du,Nat.testBit_xor]
theorem W9{a:List Nat}(d:Ac a)(e:Ac b):val (xorL a b)=val a^^^val b:=by
 apply Nat.eq_of_testBit_eq;intro i;rw[CW (LL d e),UI,Nat.testBit_xor,CW d,CW e]
theorem qf:val xs=0↔∀x∈xs,x=0:=by
 induction xs with
 |nil=>simp[val]
 |cons x r f=>
  rw[val];constructor
  ·intro h y d
   rcases List.mem_cons.1 d with e|d
   ·omega
   ·exact f.1 (by omega) y d
  ·intro h
   have g:=h x List.mem_cons_self;have i:=f.2 fun y d=>h y (List.mem_cons_of_mem _ d);omega
theorem Ny:∀(xs:List Nat),0<=firstI xs->∃k,k<xs.length/\(∀j,j<k->xs.getD j 0=0)/\xs.getD k 0≠0/\firstI xs=(k:Int)*64+Lib.ctz 64 (xs.getD k 0)
 |[],h=>by simp[firstI]at h
 |x::r,h=>by
  by_cases i:x=0
  ·have q:0<=firstI r:=by
    simp only[firstI,i]at h;split at h
    ·omega
    ·split at h
     ·omega
     ·omega
   obtain⟨k,o,s,g,y⟩:=Ny r q;have f:∀j,j<k+1->(x::r).getD j 0=0:=by
    intro j m;cases j with
    |zero=>simpa using i
    |succ j=>simpa using s j (by omega)
   have e:k+1<(x::r).length:=by simpa using o
   have d:(x::r).getD (k+1) 0≠0:=by simpa using g
   exact⟨k+1,e,f,d,L8 _ _ e f d⟩
  ·have e:0<(x::r).length:=by simp
   have d:(x::r).getD 0 0≠0:=by simpa using i
   exact⟨0,e,fun j m=>by omega,d,L8 _ _ e (fun j m=>by omega) d⟩
theorem Ic(g:Ac xs):firstI xs=if val xs=0 then -1 else(Ech.low (val xs):Int):=by
 rcases Rw xs with h|h
 ·have f:=qf.2 ((Rg xs).1 (by omega))
  rw[h,if_pos f]
 ·obtain⟨k,D,A,d,x⟩:=Ny xs h
  have m:=g.get k;have s:=MJ (xs.getD k 0) d m;have q:=Wy (xs.getD k 0) d m;have z:=fun j y=>Wz (xs.getD k 0) j d m y;generalize Lib.ctz 64 (xs.getD k 0)=t at*;have f:(val xs).testBit (64*k+t)=true:=by rw[CW g,Mr xs k t s];exact q
  have o:∀j,j<64*k+t->(val xs).testBit j=false:=fun i C=>by
   rw[CW g];unfold Ai;by_cases e:i/64<k
   ·rw[A _ e];simp
   ·rw[show i/64=k by omega];exact z _ (by omega)
  rw[if_neg (Ech.ne_of_bit f),Ech.low_unique f o,x];omega
theorem TV(e:Ac xs):firstI xs<64*(xs.length:Int)/\ -1<=firstI xs:=by
 rcases Rw xs with h|h
 ·omega
 ·obtain⟨k,i,j,d,g⟩:=Ny xs h
  have f:=MJ (xs.getD k 0) d (e.get k);omega
theorem IS(d:Ac xs):firstI xs<0↔val xs=0:=by
 rw[Ic d];split
 ·rename_i h;simp[h]
 ·rename_i h
  constructor
  ·intro k;omega
  ·intro k;exact absurd k h
theorem OP{d:List Nat}(e:Ac xs)(f:Ac d):EY xs (firstI d)=(decide (val d≠0)&&(val xs).testBit (Ech.low (val d))):=by
 rw[Ic f];split
 ·rename_i h;simp[h,EY]
 ·rename_i h
  rw[Mk,CW e];simp[h]
def C4(r b:List Nat):List Nat:=if EY r (firstI b)=true then xorL r b else r
def reduceL(B:List (List Nat))(v:List Nat):List Nat:=B.foldl C4 v
theorem LI(d:Ac r)(e:Ac b):Ac (C4 r b):=by
 unfold C4;split
 ·exact LL d e
 ·exact d
theorem Pg(g:Ac r)(f:Ac b):val (C4 r b)=if val b≠0/\(val r).testBit (Ech.low (val b))=true then val r^^^val b else val r:=by
 unfold C4;rw[OP g f];by_cases d:val b=0
 ·simp[d]
 ·by_cases e:(val r).testBit (Ech.low (val b))=true
  ·simp[d,e,W9 g f]
  ·simp[d,e]
theorem SA(r b:List Nat)(M:Nat)(d:r.length<=M)(e:b.length<=M):(C4 r b).length<=M:=by
 unfold C4;split
 ·rw[BT];omega
 ·exact d
def AC(M:Nat)(B:List (List Nat)):Prop:=∀b∈B,Ac b/\b.length<=M
theorem AC.nil(M:Nat):AC M []:=fun _ h=>by cases h
theorem AC.tail{B:List (List Nat)}(h:AC M (b::B)):AC M B:=fun a d=>h a (List.mem_cons_of_mem _ d)
theorem EO{M:Nat}:∀{B:List (List Nat)},AC M B->∀{v:List Nat},Ac v->v.length<=M->Ac (reduceL B v)/\(reduceL B v).length<=M
 |[],_,v,e,d=>⟨e,d⟩
 |b::B,h,v,e,d=>by
  have f:=h b List.mem_cons_self;exact EO h.tail (LI e f.1) (SA v b M d f.2)
theorem Ie{M:Nat}:∀{B:List (List Nat)},AC M B->∀{v:List Nat},Ac v->val (reduceL B v)=Ech.red (B.map val) (val v)
 |[],_,v,d=>rfl
 |b::B,h,v,d=>by
  have e:=h b List.mem_cons_self;show val (reduceL B (C4 v b))=Ech.red (B.map val) _;rw[Ie h.tail (LI d e.1),Pg d e.1]
theorem eY{B:List (List Nat)}{v:List Nat}(h:k<B.length):reduceL (B.take (k+1)) v=C4 (reduceL (B.take k) v) (B.getD k []):=by
 unfold reduceL;rw[List.take_succ_eq_append_getElem h,List.foldl_append];simp[List.getD_eq_getElem?_getD,List.getElem?_eq_getElem h]
theorem gh{B:List (List Nat)}{v:List Nat}(h:B.length<=k):reduceL (B.take k) v=reduceL B v:=by rw[List.take_of_length_le h]
def GN(f:Int):List (List Nat)->Nat
 |[]=>0
 |b::B=>if f<firstI b then 0 else GN f B+1
theorem Pj(f:Int):∀B,GN f B<=B.length
 |[]=>Nat.le_refl _
 |b::B=>by
  simp only[GN];split
  ·exact Nat.zero_le _
  ·have:=Pj f B;simp only[List.length_cons];omega
def Fq(r:List Nat)(p:Nat)(C:List (List Nat)):List (List Nat):=C.take p++r::C.drop p
theorem Nl(r:List Nat)(p:Nat)(C:List (List Nat))(h:p<=C.length):(Fq r p C).length=C.length+1:=by
 simp[Fq];omega
theorem jf{C:List (List Nat)}{x:List Nat}:x∈Fq r p C↔x=r\/x∈C:=by
 unfold Fq;rw[List.mem_append,List.mem_cons];constructor
 ·rintro(h|h|h)
  ·exact .inr (List.mem_of_mem_take h)
  ·exact .inl h
  ·exact .inr (List.mem_of_mem_drop h)
 ·rintro(h|h)
  ·exact .inr (.inl h)
  ·rw[<-List.take_append_drop p C,List.mem_append]at h
   rcases h with h|h
   ·exact .inl h
   ·exact .inr (.inr h)
theorem px{a:List Nat}(e:Ac a)(f:Ac b)(h:val a≠0):firstI a<firstI b↔Ech.low (val a)<Ech.low (val b):=by
 rw[Ic e,Ic f,if_neg h];split
 ·rename_i d
  rw[d];have:Ech.low 0=0:=rfl;omega
 ·omega
theorem WZ{M:Nat}{r:List Nat}(g:Ac r)(e:val r≠0):∀{C:List (List Nat)},AC M C->(Fq r (GN (firstI r) C) C).map val=Ech.put (val r) (C.map val)
 |[],_=>rfl
 |c::C,h=>by
  have i:=h c List.mem_cons_self;have f:=px g i.1 e;simp only[GN,List.map_cons,Ech.put];by_cases d:firstI r<firstI c
  ·rw[if_pos d,if_pos (f.1 d)];rfl
  ·rw[if_neg d,if_neg (fun k=>d (f.2 k)),<-WZ g e h.tail];rfl
def CK(B:List (List Nat))(v:List Nat):List (List Nat):=
 if firstI (reduceL B v)<0 then B else Fq (reduceL B v) (GN (firstI (reduceL B v)) (B.map fun b=>C4 b (reduceL B v))) (B.map fun b=>C4 b (reduceL B v))
def Li(B:List (List Nat))(v:List Nat):List (List Nat):=
 if firstI (reduceL B v)<0 then B else Fq (reduceL B v) (GN (firstI (reduceL B v)) B) (B.map fun b=>C4 b (reduceL B v))
theorem AC.map{B:List (List Nat)}(h:AC M B){r:List Nat}(f:Ac r)(e:r.length<=M):AC M (B.map fun b=>C4 b r):=by
 intro x g;obtain⟨b,d,rfl⟩:=List.mem_map.1 g;exact⟨LI (h b d).1 f,SA b r M (h b d).2 e⟩
theorem AC.insert{B:List (List Nat)}(h:AC M B){v:List Nat}(j:Ac v)(i:v.length<=M):AC M (CK B v):=by
 obtain⟨f,g⟩:=EO h j i;unfold CK;split
 ·exact h
 ·intro x d
  rcases jf.1 d with e|d
  ·rw[e];exact⟨f,g⟩
  ·exact h.map f g x d
theorem bX(B:List (List Nat))(v:List Nat):(CK B v).length<=B.length+1:=by
 unfold CK;split
 ·omega
 ·rw[Nl _ _ _ (Pj _ _),List.length_map];exact Nat.le_refl _
theorem XV{B:List (List Nat)}(h:AC M B){r:List Nat}(g:Ac r)(e:val r≠0):(B.map fun b=>C4 b r).map val=(B.map val).map (Ech.upd (val r)):=by
 rw[List.map_map,List.map_map];apply List.map_congr_left;intro b f;show val (C4 b r)=Ech.upd (val r) (val b);rw[Pg (h b f).1 g];unfold Ech.upd;by_cases d:(val b).testBit (Ech.low (val r))=true
 ·rw[if_pos ⟨e,d⟩,if_pos d]
 ·rw[if_neg (fun k=>d k.2),if_neg d]
theorem fe{B:List (List Nat)}(h:AC M B){v:List Nat}(f:Ac v)(i:v.length<=M):(CK B v).map val=Ech.ins (B.map val) (val v):=by
 obtain⟨e,g⟩:=EO h f i;unfold CK Ech.ins;rw[<-Ie h f];by_cases d:val (reduceL B v)=0
 ·rw[if_pos ((IS e).2 d),if_pos d]
 ·rw[if_neg (fun k=>d ((IS e).1 k)),if_neg d,WZ e d (h.map e g),XV h e d]
theorem R0(f:Int):∀{B C:List (List Nat)},B.map firstI=C.map firstI->GN f B=GN f C
 |[],[],_=>rfl
 |[],c::C,h=>by simp at h
 |b::B,[],h=>by simp at h
 |b::B,c::C,h=>by
  simp only[List.map_cons,List.cons.injEq]at h;simp only[GN,h.1,R0 f h.2]
theorem Y0{B:List (List Nat)}(h:AC M B)(m:Ech.Red (B.map val)){v:List Nat}(j:Ac v)(s:v.length<=M):Li B v=CK B v:=by
 obtain⟨i,x⟩:=EO h j s;unfold Li CK;by_cases e:firstI (reduceL B v)<0
 ·rw[if_pos e,if_pos e]
 ·rw[if_neg e,if_neg e]
  have f:val (reduceL B v)≠0:=fun k=>e ((IS i).2 k);rw[R0 (B:=B) (C:=B.map fun b=>C4 b (reduceL B v))];rw[List.map_map];apply List.map_congr_left;intro b g;show firstI b=firstI (C4 b (reduceL B v));have o:=Ech.upd_low m (v:=val v) (b:=val b) (by rw[<-Ie h j];exact f) (List.mem_map.2 ⟨b,g,rfl⟩);have q:val (C4 b (reduceL B v))=Ech.upd (Ech.red (B.map val) (val v)) (val b):=by
   rw[<-Ie h j,Pg (h b g).1 i];unfold Ech.upd;by_cases d:(val b).testBit (Ech.low (val (reduceL B v)))=true
   ·rw[if_pos ⟨f,d⟩,if_pos d]
   ·rw[if_neg (fun k=>d k.2),if_neg d]
  rw[Ic (h b g).1,Ic (LI (h b g).1 i),q,if_neg o.2,o.1,if_neg (m.1 _ (List.mem_map.2 ⟨b,g,rfl⟩))]
def Ch(l:List (List Nat)):List (List Nat):=l.foldl CK []
theorem NB{M:Nat}:∀(l B:List (List Nat)),AC M l->AC M B->Ech.Red (B.map val)->AC M (l.foldl CK B)/\(l.foldl CK B).map val=(l.map val).foldl Ech.ins (B.map val)/\l.foldl Li B=l.foldl CK B/\(l.foldl CK B).length<=B.length+l.length
 |[],B,_,e,_=>⟨e,rfl,rfl,by simp⟩
 |v::l,B,h,e,f=>by
  have d:=h v List.mem_cons_self;have g:=fe e d.1 d.2;obtain⟨i,j,m,o⟩:=NB l (CK B v) h.tail (e.insert d.1 d.2) (by rw[g];exact f.ins _);refine⟨i,?_,?_,?_⟩
  ·show(l.foldl CK (CK B v)).map val=_
   rw[j,g];rfl
  ·show l.foldl Li (Li B v)=l.foldl CK (CK B v)
   rw[Y0 e f d.1 d.2,m]
  ·show(l.foldl CK (CK B v)).length<=_
   have:=bX B v;simp only[List.length_cons];omega
theorem Tg(h:AC M l):AC M (Ch l):=(NB l [] h (.nil M) .nil).1
theorem Ks(h:AC M l):(Ch l).map val=Ech.basis (l.map val):=(NB l [] h (.nil M) .nil).2.1
theorem iz(h:AC M l):Ech.Red ((Ch l).map val):=by rw[Ks h];exact Ech.red_basis _
theorem AC.take{B:List (List Nat)}(h:AC M B)(k:Nat):AC M (B.take k):=fun b d=>h b (List.mem_of_mem_take d)
theorem ex(h:k<l.length):Ch (l.take (k+1))=CK (Ch (l.take k)) (l.getD k []):=by
 unfold Ch;rw[List.take_succ_eq_append_getElem h,List.foldl_append];simp[List.getD_eq_getElem?_getD,List.getElem?_eq_getElem h]
theorem AC.getD{B:List (List Nat)}(h:AC M B)(i:Nat):Ac (B.getD i [])/\(B.getD i []).length<=M:=by
 rw[List.getD_eq_getElem?_getD];cases d:B[i]? with
 |none=>exact⟨Ac.nil,Nat.zero_le _⟩
 |some x=>exact h x (List.mem_of_getElem? d)
theorem L6:Tryz.prog.underlying 40=some (.slice (Tryz.prog.elem 40)):=by kernel_rfl
theorem Ss:Tryz.prog.elem 40=265:=by kernel_rfl
theorem Ul(a:Option Addr)(n c q:Nat)(e:q<=c)(w:World):
  (Instr.sliceAt 40 (.slice a n c) none (some (.int .i64 (q:Int))) none).run Tryz.prog w=.ok (.slice a q c) w:=by
 have d:∀w:World,(sizeOf 265).run Tryz.prog w=.ok 1 w:=fun w=>by kernel_rfl
 rw[run_sliceAt_slice _ _ _ _ _ _ L6,run_slice_h _ _ _ _ _ L6 _ _ (by omega) (by omega),Ss,d];cases a<;>simp[Result.andThen,sliced,Addr.add]
theorem RowAt.take(h:RowAt w a n xs){k:Nat}(j:k<=n):RowAt w a k (xs.take k):=by
 refine⟨by rw[List.length_take,h.1];omega,fun x f=>h.2.1 x (List.mem_of_mem_take f),?_⟩;rcases h.2.2 with g|⟨b,off,rfl,d⟩
 ·left;omega
 ·refine .inr ⟨b,off,rfl,fun i e=>?_⟩
  rw[d i (by omega),List.getD_eq_getElem?_getD,List.getD_eq_getElem?_getD,List.getElem?_take_of_lt e]
def Bi(w w':World)(u v:Value):Prop:=w.grownBy w' u.ownBlock/\(v.ownBlock=u.ownBlock\/∀k,v.ownBlock=some k->w.heap.size<=k)
def El(u v:Value):Prop:=u.ownBlock=none\/u.ownBlock≠v.ownBlock
theorem El.symm(h:El u v):El v u:=by
 rcases h with h|h
 ·by_cases e:v.ownBlock=none
  ·exact .inl e
  ·exact .inr (by rw[h];exact e)
 ·exact .inr fun e=>h e.symm
theorem nm(B:Nat)(a:Option Addr)(c:Nat)(xs:List Nat)(G:Option Addr)(m Q:Nat)(d:List Nat)(w:World)(o:Own w B (.slice a xs.length c) xs)(X:B<=w.heap.size)(h:RowAt w G m d)
  (f:m=0\/∀P,G=some P->some P.block≠(Value.slice a xs.length c).ownBlock) (hn:xs.length<=1048576) (hm:m<=1048576):
  Calls Tryz.prog 293 #[.slice a xs.length c,.slice G m Q] w fun e w'=> ∃v,e=.returned v/\Own w' B v (xorL xs d)/\Bi w w' (.slice a xs.length c) v:=by
 obtain rfl:m=d.length:=h.1.symm;have q:RowAt w a xs.length xs:=by
  obtain⟨a1,c1,e,q⟩:=o.row;simp only[Value.slice.injEq]at e;rw[e.1];exact q
 by_cases ab:xs.length<d.length
 ·have L:((xs.length:Int)<(d.length:Int)):=by omega
  have V:=Ab (I5 a xs.length c xs G d.length Q d w q h hn hm);clear q h f;go_enter Tryz.func293,Tryz.ntmps293;go_wp2_with (go_at_call 274;refine(Aa V).mono ?_;rintro e w1 ⟨v,rfl,E,Y⟩);go_ret;exact⟨_,rfl,E.mono X,CM Y _,.inr fun k S=>(E.lt S).1⟩
 ·have L:¬((xs.length:Int)<(d.length:Int)):=by omega
  go_enter Tryz.func293,Tryz.ntmps293;go_wp2;go_loopw [17] (fun i wr=> ∃k:Nat,k<=d.length/\i=.int .i64 k/\Hid (Own wr B (.slice a xs.length c) (Dg xs d k))/\Hid (w.grownBy wr (Value.slice a xs.length c).ownBlock)) (fun i _=>d.length-(intOf i).toNat)
  case atStart=>exact⟨0,Nat.zero_le _,rfl,Ab (by rw[Kw];exact o),Ab (Ge _ _)⟩
  case round=>
   obtain⟨k,S,rfl,s,I⟩:=hrel;by_cases D:k<d.length
   ·obtain⟨b',T,rfl,z⟩:=(h.kept (Aa I) f).at D
    have O:k<xs.length:=by omega
    obtain⟨g,cap,K,J,aa,A,C⟩:=(Aa s).at (by rw[Ca];omega);rw[Ca]at K;simp only[Value.slice.injEq,true_and]at K;obtain⟨rfl,rfl⟩:=K;have H:=z k D;have j:=A k (by rw[Ca];omega);have Z:=C k;rw[GY xs d k k (by omega),if_neg (by omega)]at j;have ac:=u64_xor_nat (xs.getD k 0) (d.getD k 0) (o.1.get k) (h.2.1.get k);have R:=Ab (ON o.1 h.2.1 O J (Aa s) (Below.refl B _)).1;have W:=Ab (fun u=>By (Aa I) (BA _ g k u) (.inl rfl));generalize xs.getD k 0=x at*;generalize d.getD k 0=y at*;clear z A C h s q o f;go_wp2;go_roundw
    case rel=>exact⟨k+1,by omega,by go_num,R,Ab (Aa W _)⟩
    case measure=>simp[intOf];omega
   ·have N:k=d.length:=by omega
    subst N;rw[KH xs d (by omega)]at s;clear q h f o;go_wp2;go_ret;exact⟨_,rfl,Aa s,Aa I,.inl rfl⟩
theorem Y9(w:World):RowAt w none 0 []:=⟨rfl,(fun _ h=>by cases h),.inl rfl⟩
theorem mg(a:List Nat):xorL a []=a:=by
 apply Ed
 ·rw[BT];simp
 ·intro i _;rw[Du];simp
theorem XN(a:Option Addr)(n c:Nat)(xs:List Nat)(w:World)(h:RowAt w a n xs)(j:n<=1048576):
  Calls Tryz.prog 260 #[.slice a n c] w fun e w'=> ∃v,e=.returned v/\Own w' w.heap.size v xs/\Below w.heap.size w w':=by
 have f:=I5 a n c xs none 0 0 [] w h (Y9 w) j (by omega);rw[mg]at f;have g:=Ab f;clear f h;go_enter Tryz.func260,Tryz.ntmps260;go_wp2_with (go_at_call 274;refine(Aa g).mono ?_;rintro e w1 ⟨v,rfl,d,i⟩);go_ret;exact⟨_,rfl,d,i⟩
def Cz(w:World)(lo p:Nat)(a:Option Addr)(n c:Nat):Prop:=lo<=p/\w.cell? ⟨p,0,none⟩=some (.slice a n c)
theorem Cz.below(h:Cz w lo p a n c)(d:Below w.heap.size w w'):Cz w' lo p a n c:=
 ⟨h.1,(d.cell (World.block_lt_of_cell? w _ h.2)).trans h.2⟩
theorem Cz.kept{row:Option Nat}(h:Cz w lo p a n c)(d:w.grownBy w' row)(hp:some p≠row):Cz w' lo p a n c:=
 ⟨h.1,d.cell h.2 hp⟩
theorem YF(a:Option Addr)(n c:Nat)(w:World):
  Calls Tryz.prog 261 #[.slice a n c] w fun e w'=>e=.returned (.func (.func 292) #[] #[.pointer (some ⟨w.heap.size,0,none⟩)])/\
   Cz w' w.heap.size w.heap.size a n c/\Below w.heap.size w w':=by
 have f:∀(d:Fn) (first cap:Array Value) (w:World),(Instr.makeFunc d first cap).run Tryz.prog w=.ok (.func d first cap) w:=fun _ _ _ _=>rfl;go_enter Tryz.func261,Tryz.ntmps261;go_wp2;go_ret;refine⟨rfl,⟨Nat.le_refl _,?_⟩,(Below.refl _ _).alloc (Nat.le_refl _) _⟩;rw[World.cell?_alloc_at _ _ _ _ rfl];rfl
theorem Bi.after{w1 w2:World}(d:Below w.heap.size w w1)(h:Bi w1 w2 u v):Bi w w2 u v:=
 ⟨By (CM d _) h.1 (.inl rfl),h.2.imp id fun k j e=>Nat.le_trans d.size (k j e)⟩
theorem Bi.same(w:World)(u:Value):Bi w w u u:=⟨Ge _ _,.inl rfl⟩
theorem Bi.below(h:Bi w w' u v)(f:Own w B u xs)(d:B<=w.heap.size):Below B w w':=CJ h.1 d fun k e=>(f.lt e).1
theorem jZ(xs:List Nat)(k j:Nat):Ai (xs.take k) j=(decide (j<64*k)&&Ai xs j):=by
 unfold Ai;rw[List.getD_eq_getElem?_getD,List.getD_eq_getElem?_getD,List.getElem?_take];by_cases h:j/64<k
 ·rw[if_pos h,show decide (j<64*k)=true by simp;omega];simp
 ·rw[if_neg h,show decide (j<64*k)=false by simp;omega];simp
theorem js{d:List Nat}(y:Ac xs)(A:Ac d){k:Nat}(s:k=xs.length\/d.length<=k):EY xs (firstI (d.take k))=EY xs (firstI d):=by
 rcases s with rfl|s
 ·have C:Ac (d.take xs.length):=fun x h=>A x (List.mem_of_mem_take h)
  have o:∀j,(val (d.take xs.length)).testBit j=(decide (j<64*xs.length)&&(val d).testBit j):=fun j=>by rw[CW C,CW A,jZ]
  have z:∀j,64*xs.length<=j->(val xs).testBit j=false:=fun j q=>by rw[CW y,EP xs j q]
  rw[OP y C,OP y A];by_cases g:val (d.take xs.length)=0
  ·rw[g]
   by_cases e:val d=0
   ·rw[e]
   ·have m:64*xs.length<=Ech.low (val d):=by
     rcases Nat.lt_or_ge (Ech.low (val d)) (64*xs.length)with f|f
     ·have i:=o (Ech.low (val d))
      rw[g,Ech.low_bit e,decide_eq_true f]at i;simp at i
     ·exact f
    rw[z _ m];simp
  ·have e:=Ech.low_bit g
   rw[o]at e;have m:Ech.low (val (d.take xs.length))<64*xs.length:=by
    rcases Nat.lt_or_ge (Ech.low (val (d.take xs.length))) (64*xs.length)with f|f
    ·exact f
    ·rw[decide_eq_false (by omega)]at e;simp at e
   rw[decide_eq_true m,Bool.true_and]at e
   have f:Ech.low (val d)=Ech.low (val (d.take xs.length)):=Ech.low_unique e fun j q=>by
    have i:=Ech.low_none g q;rw[o,decide_eq_true (by omega),Bool.true_and]at i;exact i
   rw[f,decide_eq_true (Ech.ne_of_bit e),decide_eq_true g]
 ·rw[List.take_of_length_le s]
theorem jk(B lo p:Nat)(a:Option Addr)(c:Nat)(xs:List Nat)(y:Option Addr)(m E:Nat)(i:List Nat)(w:World)(ht:Tab w)(H:Own w B (.slice a xs.length c) xs)(X:B<=w.heap.size)(z:RowAt w y m i)
  (o:Cz w lo p y m E) (aa:m<=E) (x:m=0\/∀S,y=some S->some S.block≠(Value.slice a xs.length c).ownBlock) (T:xs.length<=1048576) (Z:m<=1048576):
  Calls Tryz.prog 292 #[.slice a xs.length c,.pointer (some ⟨p,0,none⟩)] w fun e w'=> ∃v,e=.returned v/\Own w' B v (C4 xs i)/\Bi w w' (.slice a xs.length c) v:=by
 have A:RowAt w a xs.length xs:=by
  obtain⟨a1,c1,e,A⟩:=H.row;simp only[Value.slice.injEq]at e;rw[e.1];exact A
 have ab:=z.1;obtain⟨k,L,G,s⟩:∃k:Nat,k<=m/\(k=xs.length\/i.length<=k)/\(if (xs.length:Int)<(m:Int)then(xs.length:Int)else(m:Int))=(k:Int):=by
  by_cases Y:xs.length<m
  ·exact⟨xs.length,by omega,.inl rfl,by rw[if_pos (by omega)]⟩
  ·exact⟨m,Nat.le_refl _,.inr (by omega),by rw[if_neg (by omega)]⟩
 have N:∀(ts:Array TypeId) (t:TypeId) (w:World),(Builtin.min_ ts t #[.int .i64 (m:Int),.int .i64 (xs.length:Int)]).run Tryz.prog w=.ok (.int .i64 (k:Int)) w:=fun ts t w=>by rw[run_min_int2,s]
 clear s;have ac:=Ul y m E k (by omega);have hcut:=js A.2.1 z.2.1 G;have q:=z.take L;have K:=TV q.2.1;rw[q.1]at K;have I:=Ab (Jp y k E (i.take k) w ht q (by omega));have D:=Ab (Ms a xs.length c xs (firstI (i.take k)) w A T (by omega));have hq:=o.2;have j:C4 xs i=if EY xs (firstI i)=true then xorL xs i else xs:=rfl;rw[<-hcut]at j;clear hcut q G;cases g:EY xs (firstI (i.take k))with
 |false=>
  rw[g]at D j;rw[if_neg (by decide)]at j;rw[j];have W:=Ab H;clear H z A o j g x;generalize firstI (i.take k)=f at*;go_enter Tryz.func292,Tryz.ntmps292;go_wp2_with fail;refine(Aa I).mono ?_;rintro e w1 ⟨rfl,C⟩;obtain rfl:=C.symm;go_wp2_with (go_at_call 238;refine(Aa D).mono ?_;rintro e w1 ⟨rfl,d,rfl⟩);go_ret;have h:Below w.heap.size w (w.drewN d):=below_drewN (Below.refl _ _) d;exact⟨_,rfl,(Aa W).below h,(Bi.same _ _).after h⟩
 |true=>
  rw[g]at D j;rw[if_pos rfl]at j;rw[j];clear j g A;have R:=Ab (fun w1 (h:Below w.heap.size w w1)=>nm B a c xs y m E i w1 (H.below h) (Nat.le_trans X h.size) (z.below h) x T Z);have Q:=Ab (fun w1 (h:Below w.heap.size w w1)=>(o.below h).2);clear H z o x;generalize firstI (i.take k)=f at*;go_enter Tryz.func292,Tryz.ntmps292;go_wp2_with fail;refine(Aa I).mono ?_;rintro e w1 ⟨rfl,C⟩;obtain rfl:=C.symm;go_wp2_with fail;refine(Aa D).mono ?_;rintro e w1 ⟨rfl,d,C⟩;have h:Below w.heap.size w w1:=by rw[C];exact below_drewN (Below.refl _ _) d
  have hp:=Aa Q w1 h;have J:=Ab (Aa R w1 h);have V:=Ab h;clear C h R Q D I hq ht;go_wp2_with (go_at_call 293;refine(Aa J).mono ?_;rintro e w2 ⟨v,rfl,O,P⟩);go_ret;exact⟨_,rfl,O,P.after (Aa V)⟩
def aL(w:World)(a:Option Addr)(n:Nat):Prop:=∀b off i e k d,a=some ⟨b,off,none⟩->i<n->w.cell? ⟨b,off+i,none⟩=some (.slice e k d)->k<=d
def VecsAt(w:World)(a:Option Addr)(n:Nat)(rs:List (List Nat)):Prop:=
 rs.length=n/\(n=0\/∃b off,a=some ⟨b,off,none⟩/\∀i,i<n->∃d e,w.cell? ⟨b,off+i,none⟩=some (.slice d (rs.getD i []).length e)/\RowAt w d (rs.getD i []).length (rs.getD i []))/\aL w a n
theorem VecsAt.cap{b off i d:Nat}{e:Option Addr}(h:VecsAt w (some ⟨b,off,none⟩) n rs)(g:i<n)(f:w.cell? ⟨b,off+i,none⟩=some (.slice e k d)):k<=d:=h.2.2 b off i e k d rfl g f
theorem VecsAt.at(h:VecsAt w a n rs){i:Nat}(g:i<n):
  ∃b off,a=some ⟨b,off,none⟩/\∀i,i<n->∃d f,w.cell? ⟨b,off+i,none⟩=some (.slice d (rs.getD i []).length f)/\RowAt w d (rs.getD i []).length (rs.getD i []):=by
 rcases h.2.1 with e|e
 ·omega
 ·exact e
theorem VecsAt.below(h:VecsAt w a n rs)(o:Below w.heap.size w w'):VecsAt w' a n rs:=by
 refine⟨h.1,?_,fun b off i g k j e f q=>?_⟩
 ·rcases h.2.1 with z|⟨b,off,rfl,q⟩
  ·exact .inl z
  ·refine .inr ⟨b,off,rfl,fun i f=>?_⟩
   obtain⟨g,j,d,x⟩:=q i f;exact⟨g,j,(o.cell (World.block_lt_of_cell? w _ d)).trans d,x.below o⟩
 ·obtain⟨D,y,m,s⟩:=h.at f
  rw[e]at m;simp only[Option.some.injEq,Addr.mk.injEq,and_true]at m;obtain⟨rfl,rfl⟩:=m;obtain⟨C,c2,d,x⟩:=s i f;have A:=(o.cell (World.block_lt_of_cell? w _ d)).trans d;exact h.2.2 b off i g k j e f (by rw[d,<-A,q])
theorem VecsAt.small(h:VecsAt w a n rs)(i:Nat):Ac (rs.getD i []):=by
 by_cases d:i<n
 ·obtain⟨b,off,_,f⟩:=h.at d
  obtain⟨g,j,_,e⟩:=f i d;exact e.2.1
 ·rw[List.getD_eq_getElem?_getD,List.getElem?_eq_none (by rw[h.1];omega)]
  exact Ac.nil
theorem VecsAt.fit(h:VecsAt w a n rs){M:Nat}(g:∀i,i<n->(rs.getD i []).length<=M):AC M rs:=by
 intro b j;obtain⟨i,f,rfl⟩:=List.getElem_of_mem j;have d:=h.small i;have e:=g i (by rw[<-h.1];exact f);simp only[List.getD_eq_getElem?_getD,List.getElem?_eq_getElem f,Option.getD_some]at d e;exact⟨d,e⟩
theorem N6(a:Option Addr)(n c:Nat)(rs:List (List Nat))(V:Option Addr)(m c':Nat)(xs:List Nat)(w:World)(ht:Tab w)(h:VecsAt w a n rs)(hf:AC 1048576 rs)(Q:RowAt w V m xs)(hn:n<=1048576)(hm:m<=1048576):
  Calls Tryz.prog 221 #[.slice a n c,.slice V m c'] w fun e w'=> ∃v,e=.returned v/\Own w' w.heap.size v (reduceL rs xs)/\Below w.heap.size w w':=by
 have ag:∀(fn:Fn) (first cap:Array Value) (w:World),(Instr.makeFunc fn first cap).run Tryz.prog w=.ok (.func fn first cap) w:=fun _ _ _ _=>rfl;obtain rfl:m=xs.length:=Q.1.symm;have G:=Ab (XN V _ c' xs w Q hm);have ab:=Q.2.1;clear Q;go_enter Tryz.func221,Tryz.ntmps221;go_wp2_with fail;refine(Aa G).mono ?_;rintro e w1 ⟨v,rfl,Z,hb⟩;obtain⟨O,c1,rfl,_⟩:=Z.row;go_wp2;go_loopw [5,12] (fun r i wr=> ∃k:Nat,k<=n/\i=.int .i64 k/\∃O c1,r=.slice O (reduceL (rs.take k) xs).length c1/\Hid (Own wr w.heap.size (.slice O (reduceL (rs.take k) xs).length c1) (reduceL (rs.take k) xs))/\Hid (Below w.heap.size w wr)) (fun _ i _=>n-(intOf i).toNat)
 case atStart=>exact⟨0,Nat.zero_le _,rfl,O,c1,rfl,Ab Z,Ab hb⟩
 case round=>
  obtain⟨k,hk,rfl,a2,c2,rfl,N,R⟩:=hrel;clear Z hb G;by_cases d:k<n
  ·have H:=Aa R
   obtain⟨b,off,rfl,hc⟩:=(h.below H).at d;obtain⟨W,ci,f,x⟩:=hc k d;have g:RowAt w W (rs.getD k []).length (rs.getD k []):=by
    obtain⟨b2,ac,P,X⟩:=h.at d;simp only[Option.some.injEq,Addr.mk.injEq,and_true]at P;obtain⟨rfl,rfl⟩:=P;obtain⟨ae,af,g1,g2⟩:=X k d;have:=(H.cell (World.block_lt_of_cell? w _ g1)).trans g1;rw[f]at this;simp only[Option.some.injEq,Value.slice.injEq,true_and]at this;rw[this.1];exact g2
   have Y:=(hf.getD k).2;have aa:=EO (hf.take k) ab hm;have HE:=Ab (eY (v:=xs) (show k<rs.length by rw[h.1];exact d));have K:=(h.below H).cap d f;have D:=Ab (YF W (rs.getD k []).length ci wr);have C:=g.lt;have HR:=Ab x;clear hc x g h;generalize rs.getD k []=y at*;generalize reduceL (rs.take k) xs=r at*;go_wp2_with fail;refine(Aa D).mono ?_;rintro e w2 ⟨rfl,J,o⟩;have q:=(Aa N).below o;have j:=Ad H o;have HS:=Ab (jk w.heap.size _ _ a2 c2 r W y.length ci y w2 (ht.below j) q j.size ((Aa HR).below o) J K (C.imp id fun C ad e P=>by have:=C ad e;have:=(q.lt P.symm).1;omega) aa.2 Y);have E:=Ab q;have z:=Ab j;clear J o q j N R D HR H;go_wp2_with fail;refine(Aa HS).mono ?_;rintro e w3 ⟨v,rfl,s,L⟩;have I:=(Aa z).trans (L.below (Aa E) (Aa z).size);obtain⟨a3,c3,rfl,_⟩:=s.row;rw[<-Aa HE];rw[<-Aa HE]at s;have T:=Ab s;have S:=Ab I;clear s I L HS E z;go_wp2;go_roundw
   case rel=>exact⟨k+1,by omega,by go_num,a3,c3,rfl,T,S⟩
   case measure=>simp[intOf];omega
  ·have A:reduceL (rs.take k) xs=reduceL rs xs:=gh (by rw[h.1];omega)
   rw[A]at N;rw[A];clear h A;go_wp2;go_ret;exact⟨_,rfl,Aa N,Aa R⟩
theorem Mc:(Tryz.prog.info? 40).map (fun i=>(i.zero,i.size,i.bytes))=some (some (.slice none 0 0),1,24):=by kernel_rfl
theorem lr(w:World):(sizeOf 40).run Tryz.prog w=.ok 1 w:=by
 obtain⟨f,d,_,e,_⟩:=info_parts Mc;simp[sizeOf,typeInfo,d,e]
structure AA(w:World)(B:Nat)(v:Value)(vs:List Value)(rs:List (List Nat)):Prop where
 top:w.ownsRow B 40 1 v rs.length vs
 rows:∀i u,vs[i]? =some u->Own w B u (rs.getD i [])
 apart:vs.Pairwise El
theorem AA.len(h:AA w B v vs rs):vs.length=rs.length:=by simpa using h.top.1
theorem AA.nil(w:World)(B:Nat):AA w B (.slice none 0 0) [] []:=⟨World.ownsRow_nil _ _ _ _,(fun i u h=>by simp at h),.nil⟩
theorem S8{B':Nat}{cs:List Value}(h:w.ownsRow B 40 1 v n cs)(k:Own w B' u xs):El u v:=by
 rcases h.2 with⟨rfl,_⟩|⟨g,cap,j,rfl,q,o,_⟩
 ·by_cases e:u.ownBlock=none
  ·exact .inl e
  ·exact .inr e
 ·rcases k.2.2 with⟨rfl,_⟩|⟨g',f,i,rfl,m,d,_⟩
  ·exact .inl rfl
  ·right
   intro e;simp only[Value.ownBlock,Option.some.injEq]at e;rw[e]at d;rw[o]at d;simp at d
theorem AA.dis(h:AA w B v vs rs){i:Nat}{u:Value}(d:vs[i]? =some u):El u v:=S8 h.top (h.rows i u d)
theorem Ka{e:TypeId}{cs:List Value}(h:w.ownsRow B e 1 v n cs)(d:Below w.heap.size w w'):w'.ownsRow B e 1 v n cs:=
 h.kept (CM d none) (by cases f:v.ownBlock<;>simp)
theorem AA.below(h:AA w B v vs rs)(d:Below w.heap.size w w'):AA w' B v vs rs:=
 ⟨Ka h.top d,fun i u e=>(h.rows i u e).below d,h.apart⟩
theorem AA.mono{B':Nat}(h:AA w B v vs rs)(e:B'<=B):AA w B' v vs rs:=by
 refine⟨⟨h.top.1,?_⟩,fun i u o=>(h.rows i u o).mono e,h.apart⟩;rcases h.top.2 with f|⟨g,cap,d,j,m,r⟩
 ·exact .inl f
 ·exact .inr ⟨g,cap,d,j,Nat.le_trans e m,r⟩
theorem AA.vecs(h:AA w B v vs rs):∃a c,v=.slice a rs.length c/\VecsAt w a rs.length rs:=by
 have H:=h.len;rcases h.top.2 with⟨rfl,m⟩|⟨g,cap,s,rfl,G,z,A,x,y,ht⟩
 ·exact⟨none,0,by rw[m],rfl,.inl m,fun _ _ _ _ _ _ e=>by cases e⟩
 ·have d:∀i (j:i<vs.length),w.cell? ⟨g,i,none⟩=some vs[i]:=fun i j=>by
   rw[cell_of_row w g i _ _ _ z,<-Array.getElem?_toList,<-List.getElem?_eq_getElem j,<-ht,List.getElem?_take_of_lt (by omega)]
  refine⟨_,cap,rfl,rfl,.inr ⟨g,0,rfl,fun i j=>?_⟩,fun b off i D k E e j o=>?_⟩
  ·have f:i<vs.length:=by omega
   obtain⟨a,c,e,C⟩:=(h.rows i vs[i] (List.getElem?_eq_getElem f)).row;refine⟨a,c,?_,C⟩;rw[Nat.zero_add,d i f,e]
  ·simp only[Option.some.injEq,Addr.mk.injEq,and_true]at e
   obtain⟨rfl,rfl⟩:=e;have f:i<vs.length:=by omega
   have q:=h.rows i vs[i] (List.getElem?_eq_getElem f);rw[Nat.zero_add,d i f]at o;rw[Option.some.inj o]at q;exact q.cap
def IB(l:List Value)(b:Nat):Prop:=∀u∈l,u.ownBlock≠some b
structure Bf(w w':World)(l0 l:List Value):Prop where
 os:w'.os=w.os
 tape:w'.tape=w.tape
 output:w'.output=w.output
 size:w.heap.size<=w'.heap.size
 block:∀b,b<w.heap.size->IB l0 b->w'.heap[b]? =w.heap[b]? /\IB l b
theorem Bf.refl(w:World)(l:List Value):Bf w w l l:=⟨rfl,rfl,rfl,Nat.le_refl _,fun _ _ h=>⟨rfl,h⟩⟩
theorem Bf.trans{w1 w2:World}{e f:List Value}(h:Bf w w1 l0 e)(k:Bf w1 w2 e f):Bf w w2 l0 f:=
 ⟨k.os.trans h.os,k.tape.trans h.tape,k.output.trans h.output,Nat.le_trans h.size k.size,fun b d o=>by
  obtain⟨g,i⟩:=h.block b d o;obtain⟨j,m⟩:=k.block b (Nat.lt_of_lt_of_le d h.size) i;exact⟨j.trans g,m⟩⟩
theorem Bf.of_below(h:Below w.heap.size w w')(l:List Value):Bf w w' l l:=⟨h.os,h.tape,h.output,h.size,fun b d e=>⟨h.block b d,e⟩⟩
theorem AA.off(h:AA w B v vs rs){b:Nat}(g:b<B\/w.heap.size<=b):IB (v::vs) b:=by
 intro u d e;rcases List.mem_cons.1 d with rfl|d
 ·have:=h.top.lt b e;omega
 ·obtain⟨i,f,rfl⟩:=List.getElem_of_mem d
  have:=(h.rows i _ (List.getElem?_eq_getElem f)).lt e;omega
theorem Bf.below{l:List Value}(h:Bf w w' l0 l){B:Nat}(f:B<=w.heap.size)(e:∀b,b<B->IB l0 b):Below B w w':=
 ⟨h.os,h.tape,h.output,h.size,fun b d=>(h.block b (by omega) (e b d)).1⟩
theorem Bf.cell{l:List Value}(h:Bf w w' l0 l){p:Addr}{u:Value}(d:w.cell? p=some u)(e:IB l0 p.block):w'.cell? p=some u:=
 (World.cell?_of_block (h.block p.block (World.block_lt_of_cell? w _ d) e).1).trans d
theorem AA.two(h:AA w B v vs rs){i j:Nat}{u o:Value}(e:i≠j)(q:vs[i]? =some u)(f:vs[j]? =some o):El u o:=by
 obtain⟨g,rfl⟩:=List.getElem?_eq_some_iff.1 q;obtain⟨m,rfl⟩:=List.getElem?_eq_some_iff.1 f;have hp:=List.pairwise_iff_getElem.1 h.apart;rcases Nat.lt_or_gt_of_ne e with d|d
 ·exact hp i j g m d
 ·exact(hp j i m g d).symm
theorem fW(r:List Nat)(p i:Nat)(C:List (List Nat))(hp:p<=C.length):(Fq r p C).getD i []=if i<p then C.getD i []else if i=p then r else C.getD (i-1) []:=by
 unfold Fq;have f:(C.take p).length=p:=by rw[List.length_take];omega
 rw[List.getD_eq_getElem?_getD];split
 ·rename_i d
  rw[List.getElem?_append_left (by omega),List.getElem?_take_of_lt d,List.getD_eq_getElem?_getD]
 ·rename_i d
  rw[List.getElem?_append_right (by omega),f];split
  ·rename_i e;subst e;simp
  ·rename_i e
   rw[show i-p=(i-p-1)+1 by omega,List.getElem?_cons_succ,List.getElem?_drop,List.getD_eq_getElem?_getD,show p+(i-p-1)=i-1 by omega]
theorem AA.insert{s f:Value}(h:AA w B v vs rs)(q:Own w B f r)(x:∀u∈vs,El u f)(hp:p<=rs.length)
  (e:w'.ownsRow B 40 1 s (rs.length+1) (vs.take p++f::vs.drop p)) (j:w.grownBy w' v.ownBlock):AA w' B s (vs.take p++f::vs.drop p) (Fq r p rs):=by
 have y:=h.len;have m:(vs.take p).length=p:=by rw[List.length_take];omega
 refine⟨by rw[Nl r p rs hp];exact e,fun i u d=>?_,?_⟩
 ·rw[fW r p i rs hp]
  by_cases g:i<p
  ·rw[if_pos g]
   rw[List.getElem?_append_left (by omega),List.getElem?_take_of_lt g]at d;exact(h.rows i u d).kept j (h.dis d)
  ·rw[if_neg g]
   rw[List.getElem?_append_right (by omega),m]at d;by_cases o:i=p
   ·subst o
    rw[if_pos rfl];simp at d;subst d;exact q.kept j (S8 h.top q)
   ·rw[if_neg o]
    rw[show i-p=(i-p-1)+1 by omega,List.getElem?_cons_succ,List.getElem?_drop,show p+(i-p-1)=i-1 by omega]at d;exact(h.rows (i-1) u d).kept j (h.dis d)
 ·refine(List.Perm.pairwise_iff (fun h=>El.symm h) (List.perm_middle (a:=f) (l₁:=vs.take p) (l₂:=vs.drop p))).2 ?_
  rw[List.take_append_drop];exact List.pairwise_cons.2 ⟨fun u d=>(x u d).symm,h.apart⟩
theorem PZ(a:Option Addr)(n c:Nat)(rs:List (List Nat))(f:Option Addr)(m j:Nat)(xs:List Nat)(w:World)(ht:Tab w)(h:VecsAt w a n rs)(g:AC 1048576 rs)(d:RowAt w f m xs)(C:n<=1048576)(q:m<=1048576):
  Calls Tryz.prog 285 #[.slice a n c,.slice f m j] w fun e w'=>e=.returned (.bool (decide (firstI (reduceL rs xs)<0)))/\Below w.heap.size w w':=by
 have i:=Ab (N6 a n c rs f m j xs w ht h g d C q);have A:=(EO g d.2.1 (by rw[d.1];exact q)).2;clear h d g;generalize reduceL rs xs=r at*;go_enter Tryz.func285,Tryz.ntmps285;go_wp2_with fail;refine(Aa i).mono ?_;rintro e w1 ⟨v,rfl,s,o⟩;obtain⟨z,c1,rfl,x⟩:=s.row;have y:=Ab (Jp z r.length c1 r w1 (ht.below o) x A);clear s x i;go_wp2_with (go_at_call 222;refine(Aa y).mono ?_;rintro e w2 ⟨rfl,rfl⟩);go_ret;exact⟨rfl,o⟩
theorem Tab.belowB(h:Tab w)(e:Below B w w')(d:2<B):Tab w':=fun i f=>(e.cell (p:=⟨2,i,none⟩) d).trans (h i f)
theorem AA.cell{g cap:Nat}(h:AA w B (.slice (some ⟨g,0,none⟩) n cap) vs rs){k:Nat}{u:Value}(i:vs[k]? =some u):
  w.cell? ⟨g,k,none⟩=some u/\w.frozen? ⟨g,k,none⟩=false:=by
 rcases h.top.2 with⟨d,_⟩|⟨g',e,j,d,s,f,q,m,o,ht⟩
 ·cases d
 ·simp only[Value.slice.injEq,Option.some.injEq,Addr.mk.injEq,and_true]at d
  obtain⟨rfl,_,rfl⟩:=d;have x:k<vs.length:=(List.getElem?_eq_some_iff.1 i).1;have y:=h.len;refine⟨?_,by simp[World.frozen?,f]⟩;rw[cell_of_row w g k _ _ _ f,<-Array.getElem?_toList,<-i,<-ht,List.getElem?_take_of_lt (by omega)]
theorem AA.some(h:AA w B (.slice a n c) vs rs)(i:0<rs.length):∃g,a=Option.some ⟨g,0,none⟩:=by
 rcases h.top.2 with⟨_,d⟩|⟨g',e,f,d,_⟩
 ·omega
 ·simp only[Value.slice.injEq]at d
  exact⟨g',d.1⟩
theorem AA.one(h:AA w B v vs rs):∀u∈vs,u.oneCell'=true:=by
 intro u f;obtain⟨i,d,rfl⟩:=List.getElem_of_mem f;obtain⟨a,c,e,_⟩:=(h.rows i _ (List.getElem?_eq_getElem d)).row;rw[e];rfl
theorem Own.keeps{l:List Value}(h:Own w B v xs)(k:Bf w w' l0 l)(m:∀b,v.ownBlock=some b->IB l0 b):Own w' B v xs:=by
 refine⟨h.1,h.2.1,?_⟩;rcases h.2.2 with i|⟨g,cap,e,f,j,d,r⟩
 ·exact .inl i
 ·exact .inr ⟨g,cap,e,f,j,(k.block g (Array.getElem?_eq_some_iff.1 d).1 (m g (by rw[f];rfl))).1.trans d,r⟩
theorem Cz.keeps{l:List Value}(h:Cz w lo p a n c)(k:Bf w w' l0 l)(hp:IB l0 p):Cz w' lo p a n c:=
 ⟨h.1,k.cell h.2 hp⟩
theorem qA(w:World)(n:Nat)(g:n<=1048576)(rs:List (List Nat))(e:rs=List.replicate n []):
  AA (w.alloc (.cells (madeCells #[.slice none 0 0] n) 40)) w.heap.size (.slice (some ⟨w.heap.size,0,none⟩) n n) (List.replicate n (.slice none 0 0)) rs:=by
 subst e;refine⟨⟨by simp,.inr ⟨w.heap.size,n,madeCells #[.slice none 0 0] n,by simp,Nat.le_refl _,heap_alloc_new w _,by simp,by unfold maxLen;omega,by simp[size_madeCells],?_⟩⟩,fun i u d=>?_,?_⟩
 ·rw[toList_madeCells_one,List.take_of_length_le (by simp)]
 ·rw[List.getElem?_replicate]at d
  split at d
  ·rename_i f
   obtain rfl:=Option.some.inj d;rw[List.getD_eq_getElem?_getD,List.getElem?_replicate,if_pos f];exact Own.nil _ _
  ·cases d
 ·refine List.pairwise_replicate.2 (.inr (.inl rfl))
variable {rs:List (List Nat)}{ts:List RV}{vs:List Value}{B:Nat}{v:Value}{w w':World}
theorem AA.push{s d:Value}{r:List Nat}(h:AA w B v vs rs)(m:Own w B d r)(i:∀u∈vs,El u d)
  (e:w'.ownsRow B 40 1 s (rs.length+1) (vs++[d])) (j:w.grownBy w' v.ownBlock):AA w' B s (vs++[d]) (rs++[r]):=by
 have o:=h.len;have f:vs.take rs.length++d::vs.drop rs.length=vs++[d]:=by rw[List.take_of_length_le (by omega),List.drop_of_length_le (by omega)]
 have g:Fq r rs.length rs=rs++[r]:=by unfold Fq;simp
 have:=h.insert (p:=rs.length) m i (Nat.le_refl _) (by rw[f];exact e) j;rwa[f,g]at this
theorem eM{ops:Array Oper}{rest:List Oper}{o:Oper}{act:Act}{Q:Exit->Act->World->Prop}(q:o.guard=none)(s x:Operand)
  (N:o.op=.call {callee:=.builtin .append,args:=#[s,x],argTypes:=#[260,260]}) (B:Nat) (v:Value) (vs:List Value) (rs:List (List Nat)) (f:Value) (r:List Nat)
  (O:act.eval s=v) (R:act.eval x=.slice (some ⟨w.heap.size,0,none⟩) 1 1) (h:AA w B v vs rs) (H:B<=w.heap.size) (E:Own w B f r) (K:∀u∈vs,El u f) (T:rs.length<=1048576)
  (I:∀G w',AA w' B G (vs++[f]) (rs++[r])->w.grownBy w' v.ownBlock->wpList Tryz.prog ops Q rest (act.put o.dst G) w'):wpList Tryz.prog ops Q (o::rest) act (w.alloc (.cells #[f] 40)):=by
 obtain⟨S,L,y,z,A⟩:=info_parts Mc;have m:Below w.heap.size w (w.alloc (.cells #[f] 40)):=(Below.refl _ _).alloc (Nat.le_refl _) _;have C:=h.below m;have g:f.oneCell'=true:=by
  obtain⟨a,c,e,_⟩:=E.row;rw[e];rfl
 refine wpList_append_own _ q s x 260 N B 40 S (.slice none 0 0) 1 24 Tryz.underlying260 L y z A rfl (by decide) v rs.length vs O C.top ⟨w.heap.size,0,none⟩ 1 1 [f] R rfl (fun j u D=>?_)
  (fun u P=>by rw[List.mem_singleton.1 P];exact g) (by unfold maxLen;omega) (by omega) (Nat.le_trans H m.size) ?_
 ·match j with
  |0=>
   have J:(w.alloc (.cells #[f] 40)).cell? ⟨w.heap.size,0,none⟩=some f:=by rw[World.cell?_alloc_at _ _ _ _ rfl];rfl
   simpa [Addr.add,J]using D
  |j+1=>simp at D
 ·intro v' w' i d _
  exact I v' w' (C.push (E.below m) K i d) (By (CM m _) d (.inl rfl))
theorem kI{u:Value}{xs g:List Nat}(h:Own w B u xs)(k:Own w' w.heap.size v g):El u v:=by
 by_cases f:u.ownBlock=none
 ·exact .inl f
 ·right
  intro e;obtain⟨b,d⟩:=Option.ne_none_iff_exists'.1 f;have i:=(h.lt d).2;have j:=(k.lt (by rw[<-e];exact d)).1;omega
theorem AA.dis_new{d:Value}{g:List Nat}(h:AA w B v vs rs)(k:Own w' w.heap.size d g):∀u∈vs,El u d:=by
 intro u f;obtain⟨i,e,rfl⟩:=List.getElem_of_mem f;exact kI (h.rows i _ (List.getElem?_eq_getElem e)) k
theorem AA.shape(h:AA w B v vs rs):∃a c,v=.slice a rs.length c:=by
 obtain⟨a,c,e,_⟩:=h.vecs;exact⟨a,c,e⟩
def vecsL(rs:List RV):List (List Nat):=rs.map fun r=>r.xs
def CP(w:World)(B:Nat)(v:Value)(ts:List RV):Prop:=w.ownsRow B 40 1 v ts.length (ts.map fun r=>.slice r.a r.n r.c)
theorem CP.nil(w:World)(B:Nat):CP w B (.slice none 0 0) []:=World.ownsRow_nil _ _ _ _
theorem CP.vecs(h:CP w B v ts)(s:Ae w ts):∃a c,v=.slice a ts.length c/\VecsAt w a ts.length (vecsL ts):=by
 have A:w.ownsRow B 40 1 v ts.length (ts.map fun r=>.slice r.a r.n r.c):=h;rcases h.2 with⟨rfl,o⟩|⟨g,cap,z,rfl,D,E,H,G,C,ht⟩
 ·exact⟨none,0,by rw[o],by simp[vecsL],.inl o,fun b off i x k y e=>by cases e⟩
 ·have f:∀i,i<ts.length->w.cell? ⟨g,0+i,none⟩=some (.slice (ts.getD i .dflt).a (ts.getD i .dflt).n (ts.getD i .dflt).c):=fun i d=>by
   rw[Nat.zero_add,A.cellAt i (by omega),List.getElem?_map,List.getElem?_eq_getElem d,List.getD_eq_getElem?_getD,List.getElem?_eq_getElem d];rfl
  have m:∀i,i<ts.length->(vecsL ts).getD i []=(ts.getD i .dflt).xs:=fun i d=>by
   unfold vecsL;rw[List.getD_eq_getElem?_getD,List.getElem?_map,List.getElem?_eq_getElem d,List.getD_eq_getElem?_getD,List.getElem?_eq_getElem d];rfl
  refine⟨_,cap,rfl,by simp[vecsL],.inr ⟨g,0,rfl,fun i d=>?_⟩,fun b off i x k y e d q=>?_⟩
  ·have j:=s.get d
   rw[m i d];refine⟨(ts.getD i .dflt).a,(ts.getD i .dflt).c,?_,?_⟩
   ·rw[j.1.1];exact f i d
   ·rw[j.1.1];exact j.1
  ·simp only[Option.some.injEq,Addr.mk.injEq,and_true]at e
   obtain⟨rfl,rfl⟩:=e;rw[f i d]at q;simp only[Option.some.injEq,Value.slice.injEq]at q;have:=(s.get d).2;omega
theorem P7(j:Ae w ts)(m:Af ts):AC 1048576 (vecsL ts):=fun b g=>by
 obtain⟨r,h,rfl⟩:=List.mem_map.1 g;obtain⟨i,f,rfl⟩:=List.mem_iff_getElem.1 h;have d:=j _ (List.getElem_mem f);have e:=m i;rw[List.getD_eq_getElem?_getD,List.getElem?_eq_getElem f]at e;simp only[Option.getD_some]at e;exact⟨d.1.2.1,by rw[d.1.1];omega⟩
theorem CP.below(h:CP w B v ts)(d:Below w.heap.size w w'):CP w' B v ts:=Ka h d
def ER(ts:List RV)(k:Nat):List Value:=(ts.take k).map (fun r=>Value.slice r.a r.n r.c)++List.replicate (ts.length-k) (.slice none 0 0)
theorem Sv(ts:List RV):ER ts 0=List.replicate ts.length (.slice none 0 0):=by simp[ER]
theorem TT(ts:List RV):ER ts ts.length=ts.map fun r=>Value.slice r.a r.n r.c:=by simp[ER]
theorem Su(ts:List RV)(k:Nat)(d:k<ts.length):(ER ts k).set k (.slice (ts.getD k .dflt).a (ts.getD k .dflt).n (ts.getD k .dflt).c)=ER ts (k+1):=by
 unfold ER;have e:((ts.take k).map fun r=>Value.slice r.a r.n r.c).length=k:=by simp;omega
 rw[List.set_append_right _ _ (by omega),e,Nat.sub_self,List.take_succ_eq_append_getElem d,List.map_append,List.append_assoc,show ts.length-k=(ts.length-(k+1))+1 by omega,List.replicate_succ,List.set_cons_zero];simp[List.getD_eq_getElem?_getD,List.getElem?_eq_getElem d]
theorem QF(n:Nat)(i:n<=1048576)(wx:World):(Instr.makeSlice 260 (.int .i64 (n:Int)) (.int .i64 (n:Int))).run Tryz.prog wx=.ok (.slice (some ⟨wx.heap.size,0,none⟩) n n) (wx.alloc (.cells (madeCells #[.slice none 0 0] n) 40)):=by
 obtain⟨h,d,e,g,f⟩:=info_parts Mc;have:=run_make (P:=Tryz.prog) wx 260 40 h (.slice none 0 0) Tryz.underlying260 d e .i64 .i64 (n:Int) (n:Int) (by omega) (Int.le_refl _) (by rw[f];omega) (by omega);rw[g]at this;simpa [Value.cells]using this
theorem QE(w:World)(n:Nat)(d:n<=1048576):
  (w.alloc (.cells (madeCells #[.slice none 0 0] n) 40)).ownsRow w.heap.size 40 1 (.slice (some ⟨w.heap.size,0,none⟩) n n) n (List.replicate n (.slice none 0 0)):=by
 refine⟨by simp,.inr ⟨w.heap.size,n,madeCells #[.slice none 0 0] n,by simp,Nat.le_refl _,heap_alloc_new w _,by simp,by unfold maxLen;omega,by simp[size_madeCells],?_⟩⟩;rw[toList_madeCells_one,List.take_of_length_le (by simp)]
end Go.Proofs.YtmmikiikddokgaaGreatDoor
