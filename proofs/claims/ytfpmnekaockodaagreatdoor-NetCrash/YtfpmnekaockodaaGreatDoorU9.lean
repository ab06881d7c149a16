/- Laws for the proof. -/
import Derived.Test.YtfpmnekaockodaaGreatDoorU8
set_option linter.all false
open Go.Proofs.Tryz
open List renaming getD_eq_getElem?_getD->U,mem_cons_self->β,mem_of_mem_take->ε,take_succ_eq_append_getElem->θ,mem_cons_of_mem->ι,getElem?_eq_getElem->μ,take_of_length_le->ν,map_congr_left->ο,map_map->π,foldl_append->ρ
open Go.Value renaming slice->α,slice->ς
open Go.World renaming block_lt_of_cell?->γ
open Go.Proofs.Tryz renaming prog->δ
open Go renaming World->ζ
open Go.Value.slice renaming injEq->η
open Nat renaming le_refl->κ,zero_le->ξ
namespace Go.Proofs.YtfpmnekaockodaaGreatDoor
open Go.RowKit
set_option maxRecDepth 4000
set_option maxHeartbeats 8000000
variable {B l rs:List (List Nat)}{r b xs:List Nat}{M k n:Nat}{a:Option Addr}{v u:Value}{w w':ζ}
def val:List Nat->Nat
 |[]=>0
 |x::r=>2^64*val r+x
def Ac.tail{x:Nat}(h:Ac (x::r)):Ac r:=fun y c=>h y (ι _ c)
def Ac.nil:Ac []:=fun _ h=>by cases h
def CL:∀{xs:List Nat},Ac xs->∀i,(val xs).testBit i=Ah xs i
 |[],_,i=>by simp[val,Ah]
 |x::r,h,i=>by
  have d:x<2^64:=h x β;rw[val,Nat.testBit_two_pow_mul_add _ d];unfold Ah;by_cases c:i<64
  ·rw[if_pos c,show i/64=0 by omega,show i%64=i by omega];rfl
  ·rw[if_neg c,CL h.tail,Ah,show i/64=(i-64)/64+1 by omega,show i%64=(i-64)%64 by omega];rfl
def Vy(a b:List Nat)(i:Nat):Ah (xorL a b) i=(Ah a i^^Ah b i):=by
 unfold Ah;rw[Do,Nat.testBit_xor]
def Xs{a:List Nat}(c:Ac a)(d:Ac b):val (xorL a b)=val a^^^val b:=by
 apply Nat.eq_of_testBit_eq;intro i;rw[CL (L0 c d),Vy,Nat.testBit_xor,CL c,CL d]
def X6:val xs=0↔∀x∈xs,x=0:=by
 induction xs with
 |nil=>simp[val]
 |cons x r d=>
  rw[val];constructor
  ·intro h y c
   rcases List.mem_cons.1 c with e|c
   ·omega
   ·exact d.1 (by omega) y c
  ·intro h
   have f:=h x β;have g:=d.2 fun y c=>h y (ι _ c);omega
def NT:∀(xs:List Nat),0<=firstI xs->∃k,k<xs.length/\(∀j,j<k->xs.getD j 0=0)/\xs.getD k 0≠0/\firstI xs=(k:Int)*64+Lib.ctz 64 (xs.getD k 0)
 |[],h=>by simp[firstI]at h
 |x::r,h=>by
  by_cases g:x=0
  ·have o:0<=firstI r:=by
    simp only[firstI,g]at h;split at h
    ·omega
    ·split at h
     ·omega
     ·omega
   obtain⟨k,m,p,f,q⟩:=NT r o;have e:∀j,j<k+1->(x::r).getD j 0=0:=by
    intro j i;cases j with
    |zero=>simpa using g
    |succ j=>simpa using p j (by omega)
   have d:k+1<(x::r).length:=by simpa using m
   have c:(x::r).getD (k+1) 0≠0:=by simpa using f
   exact⟨k+1,d,e,c,Mq _ _ d e c⟩
  ·have d:0<(x::r).length:=by simp
   have c:(x::r).getD 0 0≠0:=by simpa using g
   exact⟨0,d,fun j i=>by omega,c,Mq _ _ d (fun j i=>by omega) c⟩
def Io(f:Ac xs):firstI xs=if val xs=0 then -1 else(Ech.low (val xs):Int):=by
 rcases RZ xs with h|h
 ·have d:=X6.2 ((RD xs).1 (by omega))
  rw[h,if_pos d]
 ·obtain⟨k,A,y,c,q⟩:=NT xs h
  have g:=f.get k;have p:=M0 (xs.getD k 0) c g;have o:=WM (xs.getD k 0) c g;have x:=fun j s=>WN (xs.getD k 0) j c g s;generalize Lib.ctz 64 (xs.getD k 0)=t at*;have d:(val xs).testBit (64*k+t)=true:=by rw[CL f,MQ xs k t p];exact o
  have m:∀j,j<64*k+t->(val xs).testBit j=false:=fun i z=>by
   rw[CL f];unfold Ah;by_cases e:i/64<k
   ·rw[y _ e];simp
   ·rw[show i/64=k by omega];exact x _ (by omega)
  rw[if_neg (Ech.ne_of_bit d),Ech.low_unique d m,q];omega
def TL(d:Ac xs):firstI xs<64*(xs.length:Int)/\ -1<=firstI xs:=by
 rcases RZ xs with h|h
 ·omega
 ·obtain⟨k,g,i,c,f⟩:=NT xs h
  have e:=M0 (xs.getD k 0) c (d.get k);omega
def IY(c:Ac xs):firstI xs<0↔val xs=0:=by
 rw[Io c];split
 ·rename_i h;simp[h]
 ·rename_i h
  constructor
  ·intro k;omega
  ·intro k;exact absurd k h
def Pw{c:List Nat}(d:Ac xs)(e:Ac c):E4 xs (firstI c)=(decide (val c≠0)&&(val xs).testBit (Ech.low (val c))):=by
 rw[Io e];split
 ·rename_i h;simp[h,E4]
 ·rename_i h
  rw[MA,CL d];simp[h]
def CZ(r b:List Nat):List Nat:=if E4 r (firstI b)=true then xorL r b else r
def reduceL(B:List (List Nat))(v:List Nat):List Nat:=B.foldl CZ v
def LX(c:Ac r)(d:Ac b):Ac (CZ r b):=by
 unfold CZ;split
 ·exact L0 c d
 ·exact c
def Pp(f:Ac r)(e:Ac b):val (CZ r b)=if val b≠0/\(val r).testBit (Ech.low (val b))=true then val r^^^val b else val r:=by
 unfold CZ;rw[Pw f e];by_cases c:val b=0
 ·simp[c]
 ·by_cases d:(val r).testBit (Ech.low (val b))=true
  ·simp[c,d,Xs f e]
  ·simp[c,d]
def SM(r b:List Nat)(M:Nat)(c:r.length<=M)(d:b.length<=M):(CZ r b).length<=M:=by
 unfold CZ;split
 ·rw[BS];omega
 ·exact c
def Ay(M:Nat)(B:List (List Nat)):Prop:=∀b∈B,Ac b/\b.length<=M
def Ay.nil(M:Nat):Ay M []:=fun _ h=>by cases h
def Ay.tail(h:Ay M (b::B)):Ay M B:=fun a c=>h a (ι _ c)
def EU{M:Nat}:∀{B:List (List Nat)},Ay M B->∀{v:List Nat},Ac v->v.length<=M->Ac (reduceL B v)/\(reduceL B v).length<=M
 |[],_,v,d,c=>⟨d,c⟩
 |b::B,h,v,d,c=>by
  have e:=h b β;exact EU h.tail (LX d e.1) (SM v b M c e.2)
def Ip{M:Nat}:∀{B:List (List Nat)},Ay M B->∀{v:List Nat},Ac v->val (reduceL B v)=Ech.red (B.map val) (val v)
 |[],_,v,c=>rfl
 |b::B,h,v,c=>by
  have d:=h b β;show val (reduceL B (CZ v b))=Ech.red (B.map val) _;rw[Ip h.tail (LX c d.1),Pp c d.1]
def fM{v:List Nat}(h:k<B.length):reduceL (B.take (k+1)) v=CZ (reduceL (B.take k) v) (B.getD k []):=by
 unfold reduceL;rw[θ h,ρ];simp[U,μ h]
def iN{v:List Nat}(h:B.length<=k):reduceL (B.take k) v=reduceL B v:=by rw[ν h]
def G7(f:Int):List (List Nat)->Nat
 |[]=>0
 |b::B=>if f<firstI b then 0 else G7 f B+1
def Qb(f:Int):∀B,G7 f B<=B.length
 |[]=>κ _
 |b::B=>by
  simp only[G7];split
  ·exact ξ _
  ·have:=Qb f B;simp only[List.length_cons];omega
def Fw(r:List Nat)(p:Nat)(C:List (List Nat)):List (List Nat):=C.take p++r::C.drop p
def NC(r:List Nat)(p:Nat)(C:List (List Nat))(h:p<=C.length):(Fw r p C).length=C.length+1:=by
 simp[Fw];omega
def lW{p:Nat}{C:List (List Nat)}{x:List Nat}:x∈Fw r p C↔x=r\/x∈C:=by
 unfold Fw;rw[List.mem_append,List.mem_cons];constructor
 ·rintro(h|h|h)
  ·exact .inr (ε h)
  ·exact .inl h
  ·exact .inr (List.mem_of_mem_drop h)
 ·rintro(h|h)
  ·exact .inr (.inl h)
  ·rw[<-List.take_append_drop p C,List.mem_append]at h
   rcases h with h|h
   ·exact .inl h
   ·exact .inr (.inr h)
def qM{a:List Nat}(d:Ac a)(e:Ac b)(h:val a≠0):firstI a<firstI b↔Ech.low (val a)<Ech.low (val b):=by
 rw[Io d,Io e,if_neg h];split
 ·rename_i c
  rw[c];have:Ech.low 0=0:=rfl;omega
 ·omega
def W8{M:Nat}{r:List Nat}(g:Ac r)(e:val r≠0):∀{C:List (List Nat)},Ay M C->(Fw r (G7 (firstI r) C) C).map val=Ech.put (val r) (C.map val)
 |[],_=>rfl
 |c::C,h=>by
  have i:=h c β;have f:=qM g i.1 e;simp only[G7,List.map_cons,Ech.put];by_cases d:firstI r<firstI c
  ·rw[if_pos d,if_pos (f.1 d)];rfl
  ·rw[if_neg d,if_neg (fun k=>d (f.2 k)),<-W8 g e h.tail];rfl
def CB(B:List (List Nat))(v:List Nat):List (List Nat):=
 if firstI (reduceL B v)<0 then B else Fw (reduceL B v) (G7 (firstI (reduceL B v)) (B.map fun b=>CZ b (reduceL B v))) (B.map fun b=>CZ b (reduceL B v))
def Lr(B:List (List Nat))(v:List Nat):List (List Nat):=
 if firstI (reduceL B v)<0 then B else Fw (reduceL B v) (G7 (firstI (reduceL B v)) B) (B.map fun b=>CZ b (reduceL B v))
def Ay.map(h:Ay M B){r:List Nat}(e:Ac r)(d:r.length<=M):Ay M (B.map fun b=>CZ b r):=by
 intro x f;obtain⟨b,c,rfl⟩:=List.mem_map.1 f;exact⟨LX (h b c).1 e,SM b r M (h b c).2 d⟩
def Ay.insert(h:Ay M B){v:List Nat}(i:Ac v)(g:v.length<=M):Ay M (CB B v):=by
 obtain⟨d,f⟩:=EU h i g;unfold CB;split
 ·exact h
 ·intro x c
  rcases lW.1 c with e|c
  ·rw[e];exact⟨d,f⟩
  ·exact h.map d f x c
def eJ(B:List (List Nat))(v:List Nat):(CB B v).length<=B.length+1:=by
 unfold CB;split
 ·omega
 ·rw[NC _ _ _ (Qb _ _),List.length_map];exact κ _
def ZF(h:Ay M B){r:List Nat}(f:Ac r)(d:val r≠0):(B.map fun b=>CZ b r).map val=(B.map val).map (Ech.upd (val r)):=by
 rw[π,π];apply ο;intro b e;show val (CZ b r)=Ech.upd (val r) (val b);rw[Pp (h b e).1 f];unfold Ech.upd;by_cases c:(val b).testBit (Ech.low (val r))=true
 ·rw[if_pos ⟨d,c⟩,if_pos c]
 ·rw[if_neg (fun k=>c k.2),if_neg c]
def jH(h:Ay M B){v:List Nat}(e:Ac v)(g:v.length<=M):(CB B v).map val=Ech.ins (B.map val) (val v):=by
 obtain⟨d,f⟩:=EU h e g;unfold CB Ech.ins;rw[<-Ip h e];by_cases c:val (reduceL B v)=0
 ·rw[if_pos ((IY d).2 c),if_pos c]
 ·rw[if_neg (fun k=>c ((IY d).1 k)),if_neg c,W8 d c (h.map d f),ZF h d c]
def Tc(f:Int):∀{B C:List (List Nat)},B.map firstI=C.map firstI->G7 f B=G7 f C
 |[],[],_=>rfl
 |[],c::C,h=>by simp at h
 |b::B,[],h=>by simp at h
 |b::B,c::C,h=>by
  simp only[List.map_cons,List.cons.injEq]at h;simp only[G7,h.1,Tc f h.2]
def Zq(h:Ay M B)(j:Ech.Red (B.map val)){v:List Nat}(i:Ac v)(p:v.length<=M):Lr B v=CB B v:=by
 obtain⟨g,q⟩:=EU h i p;unfold Lr CB;by_cases d:firstI (reduceL B v)<0
 ·rw[if_pos d,if_pos d]
 ·rw[if_neg d,if_neg d]
  have e:val (reduceL B v)≠0:=fun k=>d ((IY g).2 k);rw[Tc (B:=B) (C:=B.map fun b=>CZ b (reduceL B v))];rw[π];apply ο;intro b f;show firstI b=firstI (CZ b (reduceL B v));have m:=Ech.upd_low j (v:=val v) (b:=val b) (by rw[<-Ip h i];exact e) (List.mem_map.2 ⟨b,f,rfl⟩);have o:val (CZ b (reduceL B v))=Ech.upd (Ech.red (B.map val) (val v)) (val b):=by
   rw[<-Ip h i,Pp (h b f).1 g];unfold Ech.upd;by_cases c:(val b).testBit (Ech.low (val (reduceL B v)))=true
   ·rw[if_pos ⟨e,c⟩,if_pos c]
   ·rw[if_neg (fun k=>c k.2),if_neg c]
  rw[Io (h b f).1,Io (LX (h b f).1 g),o,if_neg m.2,m.1,if_neg (j.1 _ (List.mem_map.2 ⟨b,f,rfl⟩))]
def Ce(l:List (List Nat)):List (List Nat):=l.foldl CB []
def NW{M:Nat}:∀(l B:List (List Nat)),Ay M l->Ay M B->Ech.Red (B.map val)->Ay M (l.foldl CB B)/\(l.foldl CB B).map val=(l.map val).foldl Ech.ins (B.map val)/\l.foldl Lr B=l.foldl CB B/\(l.foldl CB B).length<=B.length+l.length
 |[],B,_,d,_=>⟨d,rfl,rfl,by simp⟩
 |v::l,B,g,d,e=>by
  have c:=g v β;have f:=jH d c.1 c.2;obtain⟨h,i,j,m⟩:=NW l (CB B v) g.tail (d.insert c.1 c.2) (by rw[f];exact e.ins _);refine⟨h,?_,?_,?_⟩
  ·show(l.foldl CB (CB B v)).map val=_
   rw[i,f];rfl
  ·show l.foldl Lr (Lr B v)=l.foldl CB (CB B v)
   rw[Zq d e c.1 c.2,j]
  ·show(l.foldl CB (CB B v)).length<=_
   have:=eJ B v;simp only[List.length_cons];omega
def TY(h:Ay M l):Ay M (Ce l):=(NW l [] h (.nil M) .nil).1
def KH(h:Ay M l):(Ce l).map val=Ech.basis (l.map val):=(NW l [] h (.nil M) .nil).2.1
def jc(h:Ay M l):Ech.Red ((Ce l).map val):=by rw[KH h];exact Ech.red_basis _
def Ay.take(h:Ay M B)(k:Nat):Ay M (B.take k):=fun b c=>h b (ε c)
def gn(h:k<l.length):Ce (l.take (k+1))=CB (Ce (l.take k)) (l.getD k []):=by
 unfold Ce;rw[θ h,ρ];simp[U,μ h]
def Ay.getD(h:Ay M B)(i:Nat):Ac (B.getD i [])/\(B.getD i []).length<=M:=by
 rw[U];cases c:B[i]? with
 |none=>exact⟨Ac.nil,ξ _⟩
 |some x=>exact h x (List.mem_of_getElem? c)
def Mo:Tryz.prog.underlying 40=some (.slice (Tryz.prog.elem 40)):=by kernel_rfl
def Sv:Tryz.prog.elem 40=265:=by kernel_rfl
def Uw(a:Option Addr)(n c q:Nat)(e:q<=c)(w:ζ):
  (Instr.sliceAt 40 (α a n c) none (some (.int .i64 (q:Int))) none).run δ w=.ok (α a q c) w:=by
 have d:∀w:ζ,(sizeOf 265).run δ w=.ok 1 w:=fun w=>by kernel_rfl
 rw[run_sliceAt_slice _ _ _ _ _ _ Mo,run_slice_h _ _ _ _ _ Mo _ _ (by omega) (by omega),Sv,d];cases a<;>simp[Result.andThen,sliced,Addr.add]
def RowAt.take(h:RowAt w a n xs){k:Nat}(g:k<=n):RowAt w a k (xs.take k):=by
 refine⟨by rw[List.length_take,h.1];omega,fun x e=>h.2.1 x (ε e),?_⟩;rcases h.2.2 with f|⟨b,off,rfl,c⟩
 ·left;omega
 ·refine .inr ⟨b,off,rfl,fun i d=>?_⟩
  rw[c i (by omega),U,U,List.getElem?_take_of_lt d]
def Bb(w w':ζ)(u v:Value):Prop:=w.grownBy w' u.ownBlock/\(v.ownBlock=u.ownBlock\/∀k,v.ownBlock=some k->w.heap.size<=k)
def EO(u v:Value):Prop:=u.ownBlock=none\/u.ownBlock≠v.ownBlock
def EO.symm(h:EO u v):EO v u:=by
 rcases h with h|h
 ·by_cases e:v.ownBlock=none
  ·exact .inl e
  ·exact .inr (by rw[h];exact e)
 ·exact .inr fun e=>h e.symm
def oa(B:Nat)(a:Option Addr)(c:Nat)(xs:List Nat)(E:Option Addr)(m Q:Nat)(d:List Nat)(w:ζ)(o:Own w B (α a xs.length c) xs)(X:B<=w.heap.size)(h:RowAt w E m d)
  (f:m=0\/∀P,E=some P->some P.block≠(ς a xs.length c).ownBlock) (hn:xs.length<=1048576) (hm:m<=1048576):
  Calls δ 293 #[α a xs.length c,α E m Q] w fun e w'=> ∃v,e=.returned v/\Own w' B v (xorL xs d)/\Bb w w' (α a xs.length c) v:=by
 obtain rfl:m=d.length:=h.1.symm;have p:RowAt w a xs.length xs:=by
  obtain⟨a1,c1,e,p⟩:=o.row;simp only[η]at e;rw[e.1];exact p
 by_cases ab:xs.length<d.length
 ·have L:((xs.length:Int)<(d.length:Int)):=by omega
  have V:=Ab (Jf a xs.length c xs E d.length Q d w p h hn hm);clear p h f;go_enter func293,ntmps293;go_wp2_with (go_at_call 274;refine(Aa V).mono ?_;rintro e w1 ⟨v,rfl,D,Y⟩);go_ret;exact⟨_,rfl,D.mono X,CD Y _,.inr fun k S=>(D.lt S).1⟩
 ·have L:¬((xs.length:Int)<(d.length:Int)):=by omega
  go_enter func293,ntmps293;go_wp2;go_loopw [17] (fun i wr=> ∃k:Nat,k<=d.length/\i=.int .i64 k/\Hid (Own wr B (α a xs.length c) (Db xs d k))/\Hid (w.grownBy wr (ς a xs.length c).ownBlock)) (fun i _=>d.length-(intOf i).toNat)
  case atStart=>exact⟨0,ξ _,rfl,Ab (by rw[KL];exact o),Ab (Gn _ _)⟩
  case round=>
   obtain⟨k,S,rfl,q,I⟩:=hrel;by_cases C:k<d.length
   ·obtain⟨b',T,rfl,s⟩:=(h.kept (Aa I) f).at C
    have O:k<xs.length:=by omega
    obtain⟨g,cap,K,J,aa,z,A⟩:=(Aa q).at (by rw[BZ];omega);rw[BZ]at K;simp only[η,true_and]at K;obtain⟨rfl,rfl⟩:=K;have H:=s k C;have j:=z k (by rw[BZ];omega);have Z:=A k;rw[Hi xs d k k (by omega),if_neg (by omega)]at j;have ac:=u64_xor_nat (xs.getD k 0) (d.getD k 0) (o.1.get k) (h.2.1.get k);have R:=Ab (OR o.1 h.2.1 O J (Aa q) (Below.refl B _)).1;have W:=Ab (fun u=>Bx (Aa I) (Bz _ g k u) (.inl rfl));generalize xs.getD k 0=x at*;generalize d.getD k 0=y at*;clear s z A h q p o f;go_wp2;go_roundw
    case rel=>exact⟨k+1,by omega,by go_num,R,Ab (Aa W _)⟩
    case measure=>simp[intOf];omega
   ·have N:k=d.length:=by omega
    subst N;rw[KT xs d (by omega)]at q;clear p h f o;go_wp2;go_ret;exact⟨_,rfl,Aa q,Aa I,.inl rfl⟩
def Zv(w:ζ):RowAt w none 0 []:=⟨rfl,(fun _ h=>by cases h),.inl rfl⟩
def nT(a:List Nat):xorL a []=a:=by
 apply Ee
 ·rw[BS];simp
 ·intro i _;rw[Do];simp
def Zl(a:Option Addr)(n c:Nat)(xs:List Nat)(w:ζ)(h:RowAt w a n xs)(j:n<=1048576):
  Calls δ 260 #[α a n c] w fun e w'=> ∃v,e=.returned v/\Own w' w.heap.size v xs/\Below w.heap.size w w':=by
 have f:=Jf a n c xs none 0 0 [] w h (Zv w) j (by omega);rw[nT]at f;have g:=Ab f;clear f h;go_enter func260,ntmps260;go_wp2_with (go_at_call 274;refine(Aa g).mono ?_;rintro e w1 ⟨v,rfl,d,i⟩);go_ret;exact⟨_,rfl,d,i⟩
def F6(w:ζ)(lo p:Nat)(a:Option Addr)(n c:Nat):Prop:=lo<=p/\w.cell? ⟨p,0,none⟩=some (α a n c)
def F6.below{lo p:Nat}{c:Nat}(h:F6 w lo p a n c)(d:Below w.heap.size w w'):F6 w' lo p a n c:=
 ⟨h.1,(d.cell (γ w _ h.2)).trans h.2⟩
def Z2(a:Option Addr)(n c:Nat)(w:ζ):
  Calls δ 261 #[α a n c] w fun e w'=>e=.returned (.func (.func 292) #[] #[.pointer (some ⟨w.heap.size,0,none⟩)])/\
   F6 w' w.heap.size w.heap.size a n c/\Below w.heap.size w w':=by
 have f:∀(d:Fn) (first cap:Array Value) (w:ζ),(Instr.makeFunc d first cap).run δ w=.ok (.func d first cap) w:=fun _ _ _ _=>rfl;go_enter func261,ntmps261;go_wp2;go_ret;refine⟨rfl,⟨κ _,?_⟩,(Below.refl _ _).alloc (κ _) _⟩;rw[World.cell?_alloc_at _ _ _ _ rfl];rfl
def Bb.after{w1 w2:ζ}(c:Below w.heap.size w w1)(h:Bb w1 w2 u v):Bb w w2 u v:=
 ⟨Bx (CD c _) h.1 (.inl rfl),h.2.imp id fun k j d=>Nat.le_trans c.size (k j d)⟩
def Bb.same(w:ζ)(u:Value):Bb w w u u:=⟨Gn _ _,.inl rfl⟩
def Bb.below{B:Nat}(h:Bb w w' u v)(e:Own w B u xs)(c:B<=w.heap.size):Below B w w':=CA h.1 c fun k d=>(e.lt d).1
def mM(xs:List Nat)(k j:Nat):Ah (xs.take k) j=(decide (j<64*k)&&Ah xs j):=by
 unfold Ah;rw[U,U,List.getElem?_take];by_cases h:j/64<k
 ·rw[if_pos h,show decide (j<64*k)=true by simp;omega];simp
 ·rw[if_neg h,show decide (j<64*k)=false by simp;omega];simp
def mE{c:List Nat}(q:Ac xs)(y:Ac c){k:Nat}(p:k=xs.length\/c.length<=k):E4 xs (firstI (c.take k))=E4 xs (firstI c):=by
 rcases p with rfl|p
 ·have z:Ac (c.take xs.length):=fun x h=>y x (ε h)
  have m:∀j,(val (c.take xs.length)).testBit j=(decide (j<64*xs.length)&&(val c).testBit j):=fun j=>by rw[CL z,CL y,mM]
  have s:∀j,64*xs.length<=j->(val xs).testBit j=false:=fun j o=>by rw[CL q,EV xs j o]
  rw[Pw q z,Pw q y];by_cases f:val (c.take xs.length)=0
  ·rw[f]
   by_cases d:val c=0
   ·rw[d]
   ·have i:64*xs.length<=Ech.low (val c):=by
     rcases Nat.lt_or_ge (Ech.low (val c)) (64*xs.length)with e|e
     ·have g:=m (Ech.low (val c))
      rw[f,Ech.low_bit d,decide_eq_true e]at g;simp at g
     ·exact e
    rw[s _ i];simp
  ·have d:=Ech.low_bit f
   rw[m]at d;have i:Ech.low (val (c.take xs.length))<64*xs.length:=by
    rcases Nat.lt_or_ge (Ech.low (val (c.take xs.length))) (64*xs.length)with e|e
    ·exact e
    ·rw[decide_eq_false (by omega)]at d;simp at d
   rw[decide_eq_true i,Bool.true_and]at d
   have e:Ech.low (val c)=Ech.low (val (c.take xs.length)):=Ech.low_unique d fun j o=>by
    have g:=Ech.low_none f o;rw[m,decide_eq_true (by omega),Bool.true_and]at g;exact g
   rw[e,decide_eq_true (Ech.ne_of_bit d),decide_eq_true f]
 ·rw[ν p]
def kW(B lo p:Nat)(a:Option Addr)(c:Nat)(xs:List Nat)(y:Option Addr)(m E:Nat)(i:List Nat)(w:ζ)(ht:Tab w)(I:Own w B (α a xs.length c) xs)(Z:B<=w.heap.size)(z:RowAt w y m i)
  (o:F6 w lo p y m E) (ab:m<=E) (x:m=0\/∀T,y=some T->some T.block≠(ς a xs.length c).ownBlock) (V:xs.length<=1048576) (hm:m<=1048576):
  Calls δ 292 #[α a xs.length c,.pointer (some ⟨p,0,none⟩)] w fun e w'=> ∃v,e=.returned v/\Own w' B v (CZ xs i)/\Bb w w' (α a xs.length c) v:=by
 have A:RowAt w a xs.length xs:=by
  obtain⟨a1,c1,e,A⟩:=I.row;simp only[η]at e;rw[e.1];exact A
 have ac:=z.1;obtain⟨k,N,H,s⟩:∃k:Nat,k<=m/\(k=xs.length\/i.length<=k)/\(if (xs.length:Int)<(m:Int)then(xs.length:Int)else(m:Int))=(k:Int):=by
  by_cases aa:xs.length<m
  ·exact⟨xs.length,by omega,.inl rfl,by rw[if_pos (by omega)]⟩
  ·exact⟨m,κ _,.inr (by omega),by rw[if_neg (by omega)]⟩
 have O:∀(W:Array TypeId) (t:TypeId) (w:ζ),(Builtin.min_ W t #[.int .i64 (m:Int),.int .i64 (xs.length:Int)]).run δ w=.ok (.int .i64 (k:Int)) w:=fun W t w=>by rw[run_min_int2,s]
 clear s;have ae:=Uw y m E k (by omega);have hcut:=mE A.2.1 z.2.1 H;have q:=z.take N;have L:=TL q.2.1;rw[q.1]at L;have J:=Ab (JF y k E (i.take k) w ht q (by omega));have D:=Ab (MR a xs.length c xs (firstI (i.take k)) w A V (by omega));have hq:=o.2;have j:CZ xs i=if E4 xs (firstI i)=true then xorL xs i else xs:=rfl;rw[<-hcut]at j;clear hcut q H;cases g:E4 xs (firstI (i.take k))with
 |false=>
  rw[g]at D j;rw[if_neg (by decide)]at j;rw[j];have Y:=Ab I;clear I z A o j g x;generalize firstI (i.take k)=f at*;go_enter func292,ntmps292;go_wp2_with fail;refine(Aa J).mono ?_;rintro e w1 ⟨rfl,C⟩;obtain rfl:=C.symm;go_wp2_with (go_at_call 238;refine(Aa D).mono ?_;rintro e w1 ⟨rfl,d,rfl⟩);go_ret;have h:Below w.heap.size w (w.drewN d):=below_drewN (Below.refl _ _) d;exact⟨_,rfl,(Aa Y).below h,(Bb.same _ _).after h⟩
 |true=>
  rw[g]at D j;rw[if_pos rfl]at j;rw[j];clear j g A;have S:=Ab (fun w1 (h:Below w.heap.size w w1)=>oa B a c xs y m E i w1 (I.below h) (Nat.le_trans Z h.size) (z.below h) x V hm);have R:=Ab (fun w1 (h:Below w.heap.size w w1)=>(o.below h).2);clear I z o x;generalize firstI (i.take k)=f at*;go_enter func292,ntmps292;go_wp2_with fail;refine(Aa J).mono ?_;rintro e w1 ⟨rfl,C⟩;obtain rfl:=C.symm;go_wp2_with fail;refine(Aa D).mono ?_;rintro e w1 ⟨rfl,d,C⟩;have h:Below w.heap.size w w1:=by rw[C];exact below_drewN (Below.refl _ _) d
  have hp:=Aa R w1 h;have K:=Ab (Aa S w1 h);have X:=Ab h;clear C h S R D J hq ht;go_wp2_with (go_at_call 293;refine(Aa K).mono ?_;rintro e w2 ⟨v,rfl,P,Q⟩);go_ret;exact⟨_,rfl,P,Q.after (Aa X)⟩
def dQ(w:ζ)(a:Option Addr)(n:Nat):Prop:=∀b off i d k c,a=some ⟨b,off,none⟩->i<n->w.cell? ⟨b,off+i,none⟩=some (α d k c)->k<=c
def VecsAt(w:ζ)(a:Option Addr)(n:Nat)(rs:List (List Nat)):Prop:=
 rs.length=n/\(n=0\/∃b off,a=some ⟨b,off,none⟩/\∀i,i<n->∃c d,w.cell? ⟨b,off+i,none⟩=some (α c (rs.getD i []).length d)/\RowAt w c (rs.getD i []).length (rs.getD i []))/\dQ w a n
def VecsAt.cap{b off i c:Nat}{d:Option Addr}(h:VecsAt w (some ⟨b,off,none⟩) n rs)(f:i<n)(e:w.cell? ⟨b,off+i,none⟩=some (α d k c)):k<=c:=h.2.2 b off i d k c rfl f e
def VecsAt.at(h:VecsAt w a n rs){i:Nat}(f:i<n):
  ∃b off,a=some ⟨b,off,none⟩/\∀i,i<n->∃c e,w.cell? ⟨b,off+i,none⟩=some (α c (rs.getD i []).length e)/\RowAt w c (rs.getD i []).length (rs.getD i []):=by
 rcases h.2.1 with d|d
 ·omega
 ·exact d
def VecsAt.below(h:VecsAt w a n rs)(m:Below w.heap.size w w'):VecsAt w' a n rs:=by
 refine⟨h.1,?_,fun b off i f k g e d o=>?_⟩
 ·rcases h.2.1 with x|⟨b,off,rfl,o⟩
  ·exact .inl x
  ·refine .inr ⟨b,off,rfl,fun i d=>?_⟩
   obtain⟨f,g,c,q⟩:=o i d;exact⟨f,g,(m.cell (γ w _ c)).trans c,q.below m⟩
 ·obtain⟨A,s,j,p⟩:=h.at d
  rw[e]at j;simp only[Option.some.injEq,Addr.mk.injEq,and_true]at j;obtain⟨rfl,rfl⟩:=j;obtain⟨z,c2,c,q⟩:=p i d;have y:=(m.cell (γ w _ c)).trans c;exact h.2.2 b off i f k g e d (by rw[c,<-y,o])
def N7(a:Option Addr)(n c:Nat)(rs:List (List Nat))(V:Option Addr)(m c':Nat)(xs:List Nat)(w:ζ)(ht:Tab w)(h:VecsAt w a n rs)(hf:Ay 1048576 rs)(Q:RowAt w V m xs)(hn:n<=1048576)(hm:m<=1048576):
  Calls δ 221 #[α a n c,α V m c'] w fun e w'=> ∃v,e=.returned v/\Own w' w.heap.size v (reduceL rs xs)/\Below w.heap.size w w':=by
 have ag:∀(fn:Fn) (first cap:Array Value) (w:ζ),(Instr.makeFunc fn first cap).run δ w=.ok (.func fn first cap) w:=fun _ _ _ _=>rfl;obtain rfl:m=xs.length:=Q.1.symm;have E:=Ab (Zl V _ c' xs w Q hm);have ab:=Q.2.1;clear Q;go_enter func221,ntmps221;go_wp2_with fail;refine(Aa E).mono ?_;rintro e w1 ⟨v,rfl,Z,hb⟩;obtain⟨O,c1,rfl,_⟩:=Z.row;go_wp2;go_loopw [5,12] (fun r i wr=> ∃k:Nat,k<=n/\i=.int .i64 k/\∃O c1,r=α O (reduceL (rs.take k) xs).length c1/\Hid (Own wr w.heap.size (α O (reduceL (rs.take k) xs).length c1) (reduceL (rs.take k) xs))/\Hid (Below w.heap.size w wr)) (fun _ i _=>n-(intOf i).toNat)
 case atStart=>exact⟨0,ξ _,rfl,O,c1,rfl,Ab Z,Ab hb⟩
 case round=>
  obtain⟨k,hk,rfl,a2,c2,rfl,N,R⟩:=hrel;clear Z hb E;by_cases d:k<n
  ·have H:=Aa R
   obtain⟨b,off,rfl,hc⟩:=(h.below H).at d;obtain⟨W,ci,f,s⟩:=hc k d;have g:RowAt w W (rs.getD k []).length (rs.getD k []):=by
    obtain⟨b2,ac,P,X⟩:=h.at d;simp only[Option.some.injEq,Addr.mk.injEq,and_true]at P;obtain⟨rfl,rfl⟩:=P;obtain⟨ae,af,g1,g2⟩:=X k d;have:=(H.cell (γ w _ g1)).trans g1;rw[f]at this;simp only[Option.some.injEq,η,true_and]at this;rw[this.1];exact g2
   have Y:=(hf.getD k).2;have aa:=EU (hf.take k) ab hm;have HE:=Ab (fM (v:=xs) (show k<rs.length by rw[h.1];exact d));have K:=(h.below H).cap d f;have C:=Ab (Z2 W (rs.getD k []).length ci wr);have A:=g.lt;have HR:=Ab s;clear hc s g h;generalize rs.getD k []=y at*;generalize reduceL (rs.take k) xs=r at*;go_wp2_with fail;refine(Aa C).mono ?_;rintro e w2 ⟨rfl,J,o⟩;have p:=(Aa N).below o;have j:=Ad H o;have HS:=Ab (kW w.heap.size _ _ a2 c2 r W y.length ci y w2 (ht.below j) p j.size ((Aa HR).below o) J K (A.imp id fun A ad e P=>by have:=A ad e;have:=(p.lt P.symm).1;omega) aa.2 Y);have D:=Ab p;have x:=Ab j;clear J o p j N R C HR H;go_wp2_with fail;refine(Aa HS).mono ?_;rintro e w3 ⟨v,rfl,q,L⟩;have I:=(Aa x).trans (L.below (Aa D) (Aa x).size);obtain⟨a3,c3,rfl,_⟩:=q.row;rw[<-Aa HE];rw[<-Aa HE]at q;have T:=Ab q;have S:=Ab I;clear q I L HS D x;go_wp2;go_roundw
   case rel=>exact⟨k+1,by omega,by go_num,a3,c3,rfl,T,S⟩
   case measure=>simp[intOf];omega
  ·have z:reduceL (rs.take k) xs=reduceL rs xs:=iN (by rw[h.1];omega)
   rw[z]at N;rw[z];clear h z;go_wp2;go_ret;exact⟨_,rfl,Aa N,Aa R⟩
end Go.Proofs.YtfpmnekaockodaaGreatDoor
