/-
  Laws that the proof stands on.
-/
import Derived.Test.YtmmikiikddokgaaGreatDoorU9
namespace Go.Proofs.YtmmikiikddokgaaGreatDoor.Ech
variable {B ks:List Nat}{b r x W:Nat}
def Tri(B:List Nat):Prop:=(∀b∈B,b≠0)/\B.Pairwise fun a b=>b.testBit (low a)=false
theorem Tri.nil:Tri []:=⟨(fun _ h=>by cases h),List.Pairwise.nil⟩
theorem Tri.tail(h:Tri (b::B)):Tri B:=⟨fun a c=>h.1 a (List.mem_cons_of_mem _ c),(List.pairwise_cons.1 h.2).2⟩
theorem Tri.head(h:Tri (b::B)):∀a∈B,a.testBit (low b)=false:=(List.pairwise_cons.1 h.2).1
theorem Tri.snoc(h:Tri B)(f:r≠0)(e:∀b∈B,r.testBit (low b)=false):Tri (B++[r]):=by
 refine⟨fun a c=>?_,List.pairwise_append.2 ⟨h.2,by simp,fun a c b d=>?_⟩⟩
 ·rcases List.mem_append.1 c with c|c
  ·exact h.1 a c
  ·rw[List.mem_singleton.1 c];exact f
 ·rw[List.mem_singleton.1 d];exact e a c
theorem ZE(h:Sp [] x):x=0:=Sp.ind (B:=[]) (P:=fun x=>x=0) rfl (fun b x a _=>by cases a) h
theorem Zc(h:Sp (b::B) x):Sp B x\/Sp B (b^^^x):=by
 refine Sp.ind (P:=fun x=>Sp B x\/Sp B (b^^^x)) (.inl .zero) (fun c x d a=>?_) h;rcases List.mem_cons.1 d with e|d
 ·subst e
  rcases a with a|a
  ·right
   rw[<-Nat.xor_assoc,Nat.xor_self,Nat.zero_xor];exact a
  ·exact .inl a
 ·rcases a with a|a
  ·exact .inl (.add d a)
  ·right
   rw[PE];exact .add d a
theorem Qq{i:Nat}(h:∀b∈B,b.testBit i=false)(k:Sp B x):x.testBit i=false:=by
 refine Sp.ind (P:=fun x=>x.testBit i=false) (Nat.zero_testBit _) (fun b x a c=>?_) k;rw[Nat.testBit_xor,h b a,c];rfl
theorem Mp:∀{B:List Nat},Tri B->∀{x:Nat},Sp B x->(∀b∈B,x.testBit (low b)=false)->x=0
 |[],_,x,k,_=>ZE k
 |b::B,h,x,k,e=>by
  rcases Zc k with c|c
  ·exact Mp h.tail c fun a f=>e a (List.mem_cons_of_mem _ f)
  ·have d:=Qq h.head c
   rw[Nat.testBit_xor,low_bit (h.1 b List.mem_cons_self),e b List.mem_cons_self]at d;cases d
theorem KY:∀{B:List Nat},Tri B->∀v:Nat,(∀b∈B,(red B v).testBit (low b)=false)/\Sp B (v^^^red B v)
 |[],_,v=>⟨(fun _ h=>by cases h),by show Sp [] (v^^^v);rw[Nat.xor_self];exact .zero⟩
 |b::B,h,v=>by
  have i:=h.1 b List.mem_cons_self
  have d:∀v':Nat,v'.testBit (low b)=false->Sp (b::B) (v^^^v')->(∀a∈b::B,(red B v').testBit (low a)=false)/\Sp (b::B) (v^^^red B v'):=fun v' m o=>by
   obtain⟨p,j⟩:=KY h.tail v';have g:=Qq h.head j;rw[Nat.testBit_xor,m]at g;refine⟨fun a c=>?_,?_⟩
   ·rcases List.mem_cons.1 c with e|c
    ·rw[e];simpa using g
    ·exact p a c
   ·have:=o.xor (j.mono fun a c=>List.mem_cons_of_mem _ c)
    rwa[Nat.xor_assoc,<-Nat.xor_assoc v' v',Nat.xor_self,Nat.zero_xor]at this
  show(∀a∈b::B,(red B (if b≠0/\v.testBit (low b)=true then v^^^b else v)).testBit (low a)=false)/\Sp (b::B) (v^^^red B (if b≠0/\v.testBit (low b)=true then v^^^b else v));by_cases f:v.testBit (low b)=true
  ·rw[if_pos ⟨i,f⟩]
   refine d _ (by rw[Nat.testBit_xor,f,low_bit i];rfl) ?_;rw[<-Nat.xor_assoc,Nat.xor_self,Nat.zero_xor];exact .of_mem List.mem_cons_self
  ·rw[if_neg (fun k=>f k.2)]
   refine d _ (by simpa using f) ?_;rw[Nat.xor_self];exact .zero
theorem PO{v:Nat}(h:Sp B (v^^^r))(k:Sp B v):Sp B r:=by
 have:=k.xor h;rwa[<-Nat.xor_assoc,Nat.xor_self,Nat.zero_xor]at this
theorem tri_zero(h:Tri B)(v:Nat):red B v=0↔Sp B v:=by
 obtain⟨c,a⟩:=KY h v;constructor
 ·intro e
  rw[e,Nat.xor_zero]at a;exact a
 ·intro k
  exact Mp h (PO a k) c
def addT(B:List Nat)(v:Nat):List Nat:=if red B v=0 then B else B++[red B v]
theorem Tri.addT(h:Tri B)(v:Nat):Tri (addT B v):=by
 unfold Ech.addT;split
 ·exact h
 ·rename_i a;exact h.snoc a (KY h v).1
theorem PM(h:Tri B)(v x:Nat):Sp (addT B v) x↔Sp (B++[v]) x:=by
 have d:=(KY h v).2;unfold addT;split
 ·rename_i e
  have f:=(tri_zero h v).1 e;refine⟨fun k=>k.mono fun a c=>List.mem_append_left _ c,fun k=>k.of fun a c=>?_⟩;rcases List.mem_append.1 c with c|c
  ·exact .of_mem c
  ·rw[List.mem_singleton.1 c];exact f
 ·constructor
  ·intro k
   refine k.of fun a c=>?_;rcases List.mem_append.1 c with c|c
   ·exact .of_mem (List.mem_append_left _ c)
   ·rw[List.mem_singleton.1 c]
    exact PO (d.mono fun a c=>List.mem_append_left _ c) (.of_mem (by simp))
  ·intro k
   refine k.of fun a c=>?_;rcases List.mem_append.1 c with c|c
   ·exact .of_mem (List.mem_append_left _ c)
   ·rw[List.mem_singleton.1 c]
    refine PO (v:=red B v) ?_ (.of_mem (by simp));rw[Nat.xor_comm];exact d.mono fun a c=>List.mem_append_left _ c
theorem foldl_addT:∀(l B:List Nat),Tri B->Tri (l.foldl addT B)/\∀x,Sp (l.foldl addT B) x↔Sp (B++l) x
 |[],B,h=>⟨h,fun x=>by simp⟩
 |v::l,B,h=>by
  obtain⟨g,i⟩:=foldl_addT l (addT B v) (h.addT v);refine⟨g,fun x=>?_⟩;show Sp (l.foldl addT (addT B v)) x↔_;rw[i];constructor
  ·intro k
   refine k.of fun a d=>?_;rcases List.mem_append.1 d with d|d
   ·exact((PM h v a).1 (.of_mem d)).mono fun c f=>by
     rcases List.mem_append.1 f with f|f
     ·simp[f]
     ·rw[List.mem_singleton.1 f];simp
   ·exact .of_mem (by simp[d])
  ·intro k
   refine k.of fun a d=>?_;rcases List.mem_append.1 d with d|d
   ·exact((PM h v a).2 (.of_mem (by simp[d]))).mono fun c f=>List.mem_append_left _ f
   ·rcases List.mem_cons.1 d with e|d
    ·rw[e]
     exact((PM h v v).2 (.of_mem (by simp))).mono fun c f=>List.mem_append_left _ f
    ·exact .of_mem (List.mem_append_right _ d)
def lin(ks:List Nat)(c:Nat):Nat->Nat
 |0=>0
 |n+1=>lin ks c n^^^(if c.testBit n=true then ks.getD n 0 else 0)
theorem UZ{ks ks':List Nat}(c:Nat):∀n,(∀i,i<n->ks.getD i 0=ks'.getD i 0)->lin ks c n=lin ks' c n
 |0,_=>rfl
 |n+1,h=>by simp only[lin];rw[UZ c n fun i a=>h i (by omega),h n (by omega)]
theorem Pm(ks:List Nat)(c d:Nat):∀n,lin ks (c^^^d) n=lin ks c n^^^lin ks d n
 |0=>by simp[lin]
 |n+1=>by
  simp only[lin,Nat.testBit_xor,Pm ks c d n];generalize lin ks c n=x;generalize lin ks d n=y;generalize ks.getD n 0=z;apply Nat.eq_of_testBit_eq;intro i;cases c.testBit n<;>cases d.testBit n<;>simp[Nat.testBit_xor]<;>cases x.testBit i<;>cases y.testBit i<;>cases z.testBit i<;>rfl
theorem U3(ks:List Nat):∀n,lin ks 0 n=0
 |0=>rfl
 |n+1=>by simp[lin,U3 ks n]
theorem U1(ks:List Nat)(j:Nat):∀n,lin ks (2^j) n=if j<n then ks.getD j 0 else 0
 |0=>by simp[lin]
 |n+1=>by
  simp only[lin];rw[U1 ks j n,Nat.testBit_two_pow];by_cases c:j<n
  ·have a:decide (j=n)=false:=by simp;omega
   rw[if_pos c,if_pos (show j<n+1 by omega),a,if_neg (by decide),Nat.xor_zero]
  ·rw[if_neg c]
   by_cases d:j=n
   ·subst d
    rw[if_pos (show j<j+1 by omega),decide_eq_true rfl,if_pos rfl,Nat.zero_xor]
   ·have a:decide (j=n)=false:=by simpa using d
    rw[if_neg (show¬j<n+1 by omega),a,if_neg (by decide),Nat.xor_zero]
theorem MU(ks:List Nat)(c:Nat):∀n,n<=ks.length->Sp ks (lin ks c n)
 |0,_=>.zero
 |n+1,h=>by
  simp only[lin];refine(MU ks c n (by omega)).xor ?_;split
  ·refine .of_mem ?_
   rw[List.getD_eq_getElem?_getD,List.getElem?_eq_getElem (show n<ks.length by omega)];exact List.getElem_mem _
  ·exact .zero
theorem lin_of_sp(h:Sp ks x):∃c,c<2^ks.length/\lin ks c ks.length=x:=by
 refine Sp.ind (P:=fun x=> ∃c,c<2^ks.length/\lin ks c ks.length=x) ⟨0,Nat.two_pow_pos _,U3 _ _⟩ (fun b x d f=>?_) h;obtain⟨c,e,rfl⟩:=f;obtain⟨j,a,rfl⟩:=List.getElem_of_mem d;refine⟨2^j^^^c,Nat.xor_lt_two_pow (Nat.pow_lt_pow_right (by decide) a) e,?_⟩;rw[Pm,U1,if_pos a,List.getD_eq_getElem?_getD,List.getElem?_eq_getElem a];rfl
def Ind(ks:List Nat):Prop:=∀c,c<2^ks.length->lin ks c ks.length=0->c=0
theorem Ind.nil:Ind []:=fun c a _=>by simp at a;exact a
theorem lM{c n:Nat}(h:c<2^(n+1))(d:c.testBit n=false):c<2^n:=by
 rw[Nat.pow_succ]at h;rw[Nat.testBit_eq_decide_div_mod_eq]at d;have e:c/2^n<2:=Nat.div_lt_of_lt_mul h;have f:c/2^n=0:=by
  have a:¬c/2^n%2=1:=of_decide_eq_false d;generalize c/2^n=q at*;omega
 rcases Nat.lt_or_ge c (2^n)with a|a
 ·exact a
 ·have:=Nat.div_pos a (Nat.two_pow_pos n);omega
theorem Ind.snoc(h:Ind ks)(j:¬Sp ks r):Ind (ks++[r]):=by
 intro c f a;rw[List.length_append,List.length_singleton]at f a;simp only[lin]at a;rw[UZ (ks':=ks) c ks.length fun i g=>by rw[List.getD_eq_getElem?_getD,List.getElem?_append_left g,<-List.getD_eq_getElem?_getD]]at a;have e:(ks++[r]).getD ks.length 0=r:=by simp[List.getD_eq_getElem?_getD]
 rw[e]at a;by_cases d:c.testBit ks.length=true
 ·rw[if_pos d]at a
  exact absurd (by rw[<-eq_of_xor a];exact MU ks c ks.length (Nat.le_refl _)) j
 ·rw[if_neg d,Nat.xor_zero]at a
  exact h c (lM f (by simpa using d)) a
theorem Ind.uniq(h:Ind ks){c d:Nat}(a:c<2^ks.length)(f:d<2^ks.length)(e:lin ks c ks.length=lin ks d ks.length):c=d:=by
 apply eq_of_xor;refine h _ (Nat.xor_lt_two_pow a f) ?_;rw[Pm,e,Nat.xor_self]
theorem low_lt{d:Nat}(c:d≠0)(h:d<2^W):low d<W:=by
 rcases Nat.lt_or_ge (low d) W with a|a
 ·exact a
 ·have e:d<2^low d:=Nat.lt_of_lt_of_le h (Nat.pow_le_pow_right (by decide) a)
  have:=low_bit c;rw[Nat.testBit_lt_two_pow e]at this;cases this
theorem Tv{c i:Nat}(h:i<W):(c<<<W).testBit i=false:=by
 rw[Nat.testBit_shiftLeft];simp;omega
theorem shift_high(c W i:Nat):(c<<<W).testBit (W+i)=c.testBit i:=by
 rw[Nat.testBit_shiftLeft];simp
theorem U0{ks R:List Nat}{P:Nat->Nat}{W:Nat}(a:∀x y,P (x^^^y)=P x^^^P y)(c:Nat):
  ∀n,(∀i,i<n->R.getD i 0=P (ks.getD i 0)^^^2^(W+i))->lin R c n=P (lin ks c n)^^^((c%2^n)<<<W)
 |0,_=>by
  have e:P 0=0:=by have:=a 0 0;simpa using this
  simp[lin,e,Nat.mod_one]
 |n+1,h=>by
  have e:P 0=0:=by have:=a 0 0;simpa using this
  simp only[lin];rw[U0 a c n fun i q=>h i (by omega),h n (by omega),a];have o:(c%2^(n+1))<<<W=((c%2^n)<<<W)^^^(if c.testBit n=true then 2^(W+n)else 0):=by
   apply Nat.eq_of_testBit_eq;intro i;rw[Nat.testBit_xor,Nat.testBit_shiftLeft,Nat.testBit_shiftLeft,Nat.testBit_mod_two_pow,Nat.testBit_mod_two_pow];by_cases p:i<W
   ·have:decide (i≥W)=false:=by simp;omega
    rw[this];split
    ·rw[Nat.testBit_two_pow];simp;omega
    ·simp
   ·obtain⟨j,rfl⟩:∃j,i=W+j:=⟨i-W,by omega⟩
    rw[Nat.add_sub_cancel_left];have:decide (W+j≥W)=true:=by simp
    rw[this];by_cases f:j=n
    ·subst f
     split<;>rename_i d<;>simp[d]
    ·have g:(2^(W+n)).testBit (W+j)=false:=by rw[Nat.testBit_two_pow];simp;omega
     have k:decide (j<n+1)=decide (j<n):=by by_cases m:j<n<;>simp[m]<;>omega
     rw[k];split
     ·rw[g];simp
     ·simp
  rw[o];by_cases d:c.testBit n=true
  ·simp only[d,if_true]
   generalize P (lin ks c n)=x;generalize P (ks.getD n 0)=y;generalize (c%2^n)<<<W=z;generalize 2^(W+n)=u;apply Nat.eq_of_testBit_eq;intro i;simp only[Nat.testBit_xor];cases x.testBit i<;>cases y.testBit i<;>cases z.testBit i<;>cases u.testBit i<;>rfl
  ·simp[d,e]
theorem mark_red{R:List Nat}{P:Nat->Nat}(C:∀x y,P (x^^^y)=P x^^^P y)(w:∀x,Sp ks x->P x<2^W)(j:∀x,Sp ks x->P x=0->x=0)(A:Ind ks)
  (D:R.length=ks.length) (u:∀i,i<ks.length->R.getD i 0=P (ks.getD i 0)^^^2^(W+i)) (s:Tri B) (z:∀x,Sp B x↔Sp R x) {c:Nat} (E:c<2^ks.length):
  red B (P (lin ks c ks.length))=c<<<W:=by
 have a:=fun d=>U0 (ks:=ks) (R:=R) (W:=W) C d ks.length u
 have f:∀b∈B,low b<W:=fun b h=>by
  obtain⟨d,v,g⟩:=lin_of_sp ((z b).1 (.of_mem h));rw[D]at v g;rw[a d,Nat.mod_eq_of_lt v]at g;have m:=MU ks d ks.length (Nat.le_refl _)
  have k:P (lin ks d ks.length)≠0:=fun e=>by
   have p:=A d v (j _ m e);subst p;rw[e]at g;simp at g;exact s.1 b h g.symm
  have o:=low_lt k (w _ m);have q:b.testBit (low (P (lin ks d ks.length)))=true:=by rw[<-g,Nat.testBit_xor,low_bit k,Tv o];rfl
  exact Nat.lt_of_le_of_lt (QC q) o
 obtain⟨p,o⟩:=KY s (P (lin ks c ks.length));have q:Sp B (P (lin ks c ks.length)^^^c<<<W):=by
  refine(z _).2 ?_;have:=a c;rw[Nat.mod_eq_of_lt E]at this;rw[<-this];exact MU R c ks.length (by omega)
 apply eq_of_xor;refine Mp s ?_ fun b h=>?_
 ·have:=o.xor q
  rwa[SZ]at this
 ·rw[Nat.testBit_xor,p b h,Tv (f b h)];rfl
def proj(fs:List Nat)(x:Nat):Nat->Nat
 |0=>0
 |n+1=>proj fs x n^^^(if x.testBit (fs.getD n 0)=true then 2^n else 0)
theorem proj_bit(fs:List Nat)(x j:Nat):∀n,(proj fs x n).testBit j=(decide (j<n)&&x.testBit (fs.getD j 0))
 |0=>by simp[proj]
 |n+1=>by
  simp only[proj];rw[Nat.testBit_xor,proj_bit fs x j n];by_cases e:j=n
  ·subst e
   have d:decide (j<j)=false:=by simp
   have a:decide (j<j+1)=true:=by simp
   rw[d,a];generalize x.testBit (fs.getD j 0)=c;cases c<;>simp
  ·have a:decide (j<n+1)=decide (j<n):=by by_cases f:j<n<;>simp[f]<;>omega
   rw[a];split
   ·rw[Nat.testBit_two_pow]
    have:decide (n=j)=false:=by simp;omega
    rw[this];simp
   ·simp
theorem proj_xor(fs:List Nat)(n x y:Nat):proj fs (x^^^y) n=proj fs x n^^^proj fs y n:=by
 apply Nat.eq_of_testBit_eq;intro j;rw[Nat.testBit_xor,proj_bit,proj_bit,proj_bit,Nat.testBit_xor];cases decide (j<n)<;>cases x.testBit (fs.getD j 0)<;>cases y.testBit (fs.getD j 0)<;>rfl
theorem proj_lt(fs:List Nat)(x n:Nat):proj fs x n<2^n:=by
 apply Nat.lt_pow_two_of_testBit;intro j a;rw[proj_bit];simp;omega
theorem proj_inj(d:Tri B){fs:List Nat}(f:fs=B.map low){x:Nat}(g:Sp B x)(h:proj fs x B.length=0):x=0:=by
 refine Mp d g fun b e=>?_;obtain⟨j,c,rfl⟩:=List.getElem_of_mem e;have a:=proj_bit fs x j B.length;rw[h,f]at a;simpa [c,List.getD_eq_getElem?_getD,List.getElem?_eq_getElem c]using a.symm
end Go.Proofs.YtmmikiikddokgaaGreatDoor.Ech
namespace Go.Proofs.YtmmikiikddokgaaGreatDoor
open Go.RowKit
set_option linter.unusedVariables false
set_option linter.unusedSimpArgs false
set_option maxRecDepth 4000
variable {l rs:List (List Nat)}{M n:Nat}
def Dh(B:List (List Nat))(v:List Nat):List (List Nat):=if firstI (reduceL B v)<0 then B else B++[reduceL B v]
def broughtL(l:List (List Nat)):List (List Nat):=l.foldl Dh []
theorem AC.addT{B:List (List Nat)}(h:AC M B){v:List Nat}(d:Ac v)(c:v.length<=M):AC M (Dh B v):=by
 unfold Dh;split
 ·exact h
 ·intro x a
  rcases List.mem_append.1 a with a|a
  ·exact h x a
  ·rw[List.mem_singleton.1 a];exact EO h d c
theorem mo{B:List (List Nat)}(h:AC M B){v:List Nat}(d:Ac v)(e:v.length<=M):(Dh B v).map val=Ech.addT (B.map val) (val v):=by
 obtain⟨c,f⟩:=EO h d e;unfold Dh Ech.addT;rw[<-Ie h d];by_cases a:val (reduceL B v)=0
 ·rw[if_pos ((IS c).2 a),if_pos a]
 ·rw[if_neg (fun k=>a ((IS c).1 k)),if_neg a];simp
theorem mm(B:List (List Nat))(v:List Nat):(Dh B v).length<=B.length+1:=by
 unfold Dh;split
 ·omega
 ·simp
theorem LA{M:Nat}:∀(l B:List (List Nat)),AC M l->AC M B->AC M (l.foldl Dh B)/\(l.foldl Dh B).map val=(l.map val).foldl Ech.addT (B.map val)/\(l.foldl Dh B).length<=B.length+l.length
 |[],B,_,a=>⟨a,rfl,by simp⟩
 |v::l,B,d,a=>by
  have c:=d v List.mem_cons_self;obtain⟨e,f,g⟩:=LA l (Dh B v) d.tail (a.addT c.1 c.2);refine⟨e,?_,?_⟩
  ·show(l.foldl Dh (Dh B v)).map val=_
   rw[f,mo a c.1 c.2];rfl
  ·show(l.foldl Dh (Dh B v)).length<=_
   have:=mm B v;simp only[List.length_cons];omega
theorem Fa(h:AC M l):AC M (broughtL l):=(LA l [] h (.nil M)).1
theorem RS(h:AC M l):(broughtL l).map val=(l.map val).foldl Ech.addT []:=(LA l [] h (.nil M)).2.1
theorem Kj(h:AC M l):(broughtL l).length<=l.length:=by
 have a:(l.foldl Dh []).length<=l.length:=by simpa using(LA l [] h (.nil M)).2.2
 exact a
theorem Kk(h:AC M l):Ech.Tri ((broughtL l).map val):=by rw[RS h];exact(Ech.foldl_addT _ _ .nil).1
theorem NO(h:AC M l)(x:Nat):Ech.Sp ((broughtL l).map val) x↔Ech.Sp (l.map val) x:=by rw[RS h];exact(Ech.foldl_addT _ _ .nil).2 x
theorem Ro{k:Nat}(h:k<l.length):broughtL (l.take (k+1))=Dh (broughtL (l.take k)) (l.getD k []):=by
 unfold broughtL;rw[List.take_succ_eq_append_getElem h,List.foldl_append];simp[List.getD_eq_getElem?_getD,List.getElem?_eq_getElem h]
theorem LM(h:AC M l){v:List Nat}(a:Ac v)(c:v.length<=M):firstI (reduceL (broughtL l) v)<0↔Ech.Sp (l.map val) (val v):=by
 rw[IS (EO (Fa h) a c).1,Ie (Fa h) a,Ech.tri_zero (Kk h),NO h]
theorem cM(h:AC M l){v:List Nat}(a:Ac v)(c:v.length<=M):firstI (reduceL (Ch l) v)<0↔Ech.Sp (l.map val) (val v):=by
 rw[IS (EO (Tg h) a c).1,Ie (Tg h) a,Ech.red_zero (iz h),Ks h,Ech.sp_basis]
def keepL(rs:List (List Nat)):Nat->List Nat
 |0=>[]
 |k+1=>if firstI (reduceL (broughtL (rs.take k)) (rs.getD k []))<0 then keepL rs k else keepL rs k++[k]
def I6(rs:List (List Nat)):Nat->List Nat
 |0=>[]
 |k+1=>if firstI (reduceL (Ch (rs.take k)) (rs.getD k []))<0 then I6 rs k else I6 rs k++[k]
theorem WN{M:Nat}{rs:List (List Nat)}(h:AC M rs):∀k,I6 rs k=keepL rs k
 |0=>rfl
 |k+1=>by
  have c:=LM (h.take k) (h.getD k).1 (h.getD k).2;have d:=cM (h.take k) (h.getD k).1 (h.getD k).2;simp only[I6,keepL,WN h k];by_cases a:Ech.Sp ((rs.take k).map val) (val (rs.getD k []))
  ·rw[if_pos (c.2 a),if_pos (d.2 a)]
  ·rw[if_neg (fun e=>a (c.1 e)),if_neg (fun e=>a (d.1 e))]
theorem JK(rs:List (List Nat)):∀k,∀i∈keepL rs k,i<k
 |0,i,h=>by cases h
 |k+1,i,h=>by
  simp only[keepL]at h;split at h
  ·have:=JK rs k i h;omega
  ·rcases List.mem_append.1 h with h|h
   ·have:=JK rs k i h;omega
   ·rw[List.mem_singleton.1 h];omega
theorem GA(rs:List (List Nat)):∀k,(keepL rs k).length<=k
 |0=>Nat.le_refl _
 |k+1=>by
  have:=GA rs k;simp only[keepL];split
  ·omega
  ·simp;omega
theorem Nm(rs:List (List Nat)):∀k,k<=rs.length->(keepL rs k).length=(broughtL (rs.take k)).length
 |0,_=>by simp[keepL,broughtL]
 |k+1,h=>by
  rw[Ro (by omega)];simp only[keepL,Dh];have:=Nm rs k (by omega);split<;>simp[this]
theorem RF(rs:List (List Nat)):∀k,k<=rs.length->(I6 rs k).length=(Ch (rs.take k)).length
 |0,_=>by simp[I6,Ch]
 |k+1,h=>by
  rw[ex (by omega)];simp only[I6,CK];have:=RF rs k (by omega);split
  ·exact this
  ·rw[Nl _ _ _ (Pj _ _)]
   simp[this]
def Er(rs:List (List Nat))(ps:List Nat):List (List Nat):=ps.map fun i=>rs.getD i []
def GK(rs:List (List Nat)):List (List Nat):=Er rs (keepL rs rs.length)
theorem hU(h:AC M rs)(ps:List Nat):AC M (Er rs ps):=by
 intro x a;obtain⟨i,_,rfl⟩:=List.mem_map.1 a;exact h.getD i
theorem On{M:Nat}{rs:List (List Nat)}(h:AC M rs):∀k,k<=rs.length->(∀x,Ech.Sp ((Er rs (keepL rs k)).map val) x↔Ech.Sp ((rs.take k).map val) x)/\Ech.Ind ((Er rs (keepL rs k)).map val)
 |0,_=>⟨fun x=>by simp[keepL,Er],Ech.Ind.nil⟩
 |k+1,p=>by
  obtain⟨g,m⟩:=On h k (by omega);have f:=LM (h.take k) (h.getD k).1 (h.getD k).2;have ht:(rs.take (k+1)).map val=(rs.take k).map val++[val (rs.getD k [])]:=by
   rw[List.take_succ_eq_append_getElem (show k<rs.length by omega),List.map_append,List.getD_eq_getElem?_getD,List.getElem?_eq_getElem (show k<rs.length by omega)];rfl
  rw[ht];simp only[keepL];split
  ·rename_i i
   refine⟨fun x=>?_,m⟩;rw[g];refine⟨fun e=>e.mono fun a d=>List.mem_append_left _ d,fun e=>e.of fun a d=>?_⟩;rcases List.mem_append.1 d with d|d
   ·exact .of_mem d
   ·rw[List.mem_singleton.1 d];exact f.1 i
  ·rename_i i
   have o:(Er rs (keepL rs k++[k])).map val=(Er rs (keepL rs k)).map val++[val (rs.getD k [])]:=by simp[Er]
   rw[o];refine⟨fun x=>⟨fun e=>e.of fun a d=>?_,fun e=>e.of fun a d=>?_⟩,m.snoc fun e=>i (f.2 ((g _).1 e))⟩
   ·rcases List.mem_append.1 d with d|d
    ·exact((g a).1 (.of_mem d)).mono fun c j=>List.mem_append_left _ j
    ·exact .of_mem (List.mem_append_right _ d)
   ·rcases List.mem_append.1 d with d|d
    ·exact((g a).2 (.of_mem d)).mono fun c j=>List.mem_append_left _ j
    ·exact .of_mem (List.mem_append_right _ d)
theorem Mu(h:AC M rs)(x:Nat):Ech.Sp ((GK rs).map val) x↔Ech.Sp (rs.map val) x:=by
 have:=(On h rs.length (Nat.le_refl _)).1 x;rwa[List.take_length]at this
theorem VG(h:AC M rs):Ech.Ind ((GK rs).map val):=(On h rs.length (Nat.le_refl _)).2
theorem Il(rs:List (List Nat)):((GK rs).map val).length=(keepL rs rs.length).length:=by simp[GK,Er]
theorem pm(rs:List (List Nat))(i:Nat)(a:i<(keepL rs rs.length).length):((GK rs).map val).getD i 0=val (rs.getD ((keepL rs rs.length).getD i 0) []):=by
 simp[GK,Er,List.getD_eq_getElem?_getD,List.getElem?_eq_getElem a]
theorem LQ(h:AC M rs):(keepL rs rs.length).length=(Ch rs).length:=by
 rw[<-WN h,RF rs _ (Nat.le_refl _),List.take_length]
def chosenL(ps:List Nat)(p:Nat->Bool):Nat->List Nat
 |0=>[]
 |n+1=>if p n=true then chosenL ps p n++[ps.getD n 0]else chosenL ps p n
theorem Rs(ps:List Nat){p q:Nat->Bool}:∀n,(∀i,i<n->p i=q i)->chosenL ps p n=chosenL ps q n
 |0,_=>rfl
 |n+1,h=>by simp only[chosenL];rw[Rs ps n fun i a=>h i (by omega),h n (by omega)]
theorem NS(ps:List Nat)(p:Nat->Bool):∀n,(chosenL ps p n).length<=n
 |0=>Nat.le_refl _
 |n+1=>by
  have:=NS ps p n;simp only[chosenL];split
  ·simp;omega
  ·omega
theorem NT(ps:List Nat)(p:Nat->Bool):∀n,n<=ps.length->List.Sublist (chosenL ps p n) (ps.take n)
 |0,_=>by simp[chosenL]
 |n+1,h=>by
  rw[List.take_succ_eq_append_getElem (show n<ps.length by omega)];simp only[chosenL];split
  ·refine(NT ps p n (by omega)).append ?_
   simp[List.getD_eq_getElem?_getD,List.getElem?_eq_getElem (show n<ps.length by omega)]
  ·exact(NT ps p n (by omega)).trans (List.sublist_append_left _ _)
theorem To{p:Nat->Bool}(c:n<=(keepL rs rs.length).length):∀i∈chosenL (keepL rs rs.length) p n,i<rs.length:=fun i a=>
 JK rs _ i (List.mem_of_mem_take ((NT _ p n c).subset a))
def Eh(rs:List (List Nat))(ps:List Nat):List Nat:=ps.foldl (fun x i=>xorL x (rs.getD i [])) []
theorem V6{M:Nat}{rs:List (List Nat)}(h:AC M rs):∀(ps:List Nat) (x:List Nat),Ac x->x.length<=M->Ac (ps.foldl (fun x i=>xorL x (rs.getD i [])) x)/\(ps.foldl (fun x i=>xorL x (rs.getD i [])) x).length<=M
 |[],x,a,c=>⟨a,c⟩
 |i::ps,x,a,c=>V6 h ps _ (LL a (h.getD i).1) (by rw[BT];have:=(h.getD i).2;omega)
theorem Ug(h:AC M rs)(ps:List Nat):Ac (Eh rs ps)/\(Eh rs ps).length<=M:=V6 h ps [] Ac.nil (Nat.zero_le _)
theorem qS(rs:List (List Nat))(ps:List Nat)(i:Nat):Eh rs (ps++[i])=xorL (Eh rs ps) (rs.getD i []):=by simp[Eh]
theorem Px{M:Nat}{rs:List (List Nat)}(h:AC M rs)(ps:List Nat)(c:Nat):∀n,n<=ps.length->val (Eh rs (chosenL ps (fun i=>c.testBit i) n))=Ech.lin ((Er rs ps).map val) c n
 |0,_=>rfl
 |n+1,d=>by
  have a:((Er rs ps).map val).getD n 0=val (rs.getD (ps.getD n 0) []):=by simp[Er,List.getD_eq_getElem?_getD,List.getElem?_eq_getElem (show n<ps.length by omega)]
  simp only[chosenL,Ech.lin];rw[a];split
  ·rw[qS,W9 (Ug h _).1 (h.getD _).1,Px h ps c n (by omega)]
  ·rw[Px h ps c n (by omega),Nat.xor_zero]
def Bq(rs:List (List Nat))(v:List Nat)(c:Nat):Prop:=c<2^(keepL rs rs.length).length/\Ech.lin ((GK rs).map val) c (keepL rs rs.length).length=val v
theorem Bq.uniq(h:AC M rs){v:List Nat}{c d:Nat}(a:Bq rs v c)(e:Bq rs v d):c=d:=by
 refine(VG h).uniq ?_ ?_ ?_
 ·rw[Il];exact a.1
 ·rw[Il];exact e.1
 ·rw[Il,a.2,e.2]
theorem Tn(h:AC M rs){v:List Nat}(e:Ech.Sp (rs.map val) (val v)):∃c,Bq rs v c:=by
 obtain⟨c,a,d⟩:=Ech.lin_of_sp ((Mu h _).2 e);rw[Il]at a d;exact⟨c,a,d⟩
theorem Bq.sum(h:AC M rs){v:List Nat}{c:Nat}(a:Bq rs v c):val (Eh rs (chosenL (keepL rs rs.length) (fun i=>c.testBit i) (keepL rs rs.length).length))=val v:=by
 rw[Px h _ _ _ (Nat.le_refl _)];exact a.2
theorem Oj(xs:List Nat)(i j:Nat)(h:i<64*xs.length):Ai (Bz xs i true) j=(decide (j=i)||Ai xs j):=by
 have f:i/64<xs.length:=by omega
 unfold Ai Bz setW;rw[DV];by_cases d:j/64=i/64
 ·rw[if_pos ⟨d,f⟩,d]
  by_cases g:j%64=i%64
  ·have a:j=i:=by omega
   subst a;split
   ·rename_i c;rw[c];simp
   ·rename_i c;rw[Nat.testBit_xor,Nat.testBit_two_pow];simp at c;simp[c]
  ·have a:decide (j=i)=false:=by simp;omega
   have e:decide (i%64=j%64)=false:=by simp;omega
   split
   ·rw[a];rfl
   ·rw[Nat.testBit_xor,Nat.testBit_two_pow,a,e];simp
 ·have a:decide (j=i)=false:=by simp;omega
  rw[if_neg (fun k=>d k.1),a];rfl
theorem N7{xs:List Nat}(h:Ac xs)(i:Nat)(on:Bool):Ac (Bz xs i on):=h.set _ _ (MF _ _ _ (h.get _) (by omega))
def Cc(row v fs:List Nat):Nat->List Nat
 |0=>row
 |k+1=>if Ai v (fs.getD k 0)=true then Bz (Cc row v fs k) k true else Cc row v fs k
theorem Io(row v fs:List Nat):∀k,(Cc row v fs k).length=row.length
 |0=>rfl
 |k+1=>by
  simp only[Cc];split
  ·rw[Ii,Io row v fs k]
  ·exact Io row v fs k
theorem IR{row:List Nat}(h:Ac row)(v fs:List Nat):∀k,Ac (Cc row v fs k)
 |0=>h
 |k+1=>by
  simp only[Cc];split
  ·exact N7 (IR h v fs k) _ _
  ·exact IR h v fs k
theorem O9(row v fs:List Nat)(j:Nat):∀k,k<=64*row.length->Ai (Cc row v fs k) j=(Ai row j||(decide (j<k)&&Ai v (fs.getD j 0)))
 |0,_=>by simp[Cc]
 |k+1,h=>by
  have a:=O9 row v fs j k (by omega);simp only[Cc];by_cases e:j=k
  ·subst e
   have f:decide (j<j)=false:=by simp
   have c:decide (j<j+1)=true:=by simp
   rw[f]at a;rw[c];split
   ·rename_i d
    rw[Oj _ _ _ (by rw[Io];omega),a,d];simp
   ·rename_i d
    rw[a,show Ai v (fs.getD j 0)=false by simpa using d];simp
  ·have c:decide (j<k+1)=decide (j<k):=by by_cases g:j<k<;>simp[g]<;>omega
   rw[c];split
   ·rw[Oj _ _ _ (by rw[Io];omega),a];simp[e]
   ·exact a
def BB(n:Nat):List Nat:=List.replicate n 0
theorem Ij(n:Nat):Ac (BB n):=fun x a=>by rw[List.eq_of_mem_replicate a];show 0<18446744073709551616;decide
theorem Gd(n:Nat):(BB n).length=n:=by simp[BB]
theorem Uv(n j:Nat):Ai (BB n) j=false:=by
 unfold Ai BB;rw[List.getD_eq_getElem?_getD,List.getElem?_replicate];split<;>simp
theorem pB{s:Nat}{v fs:List Nat}(c:Ac v)(a:n<=64*s):val (Cc (BB s) v fs n)=Ech.proj fs (val v) n:=by
 apply Nat.eq_of_testBit_eq;intro j;rw[CW (IR (Ij s) v fs n),O9 _ _ _ _ _ (by rw[Gd];exact a),Uv,Ech.proj_bit,CW c];simp
theorem qB{s i:Nat}{v fs:List Nat}(g:Ac v)(f:n<=64*s)(e:n+i<64*s):val (Bz (Cc (BB s) v fs n) (n+i) true)=Ech.proj fs (val v) n^^^2^(n+i):=by
 apply Nat.eq_of_testBit_eq;intro j
 rw[CW (N7 (IR (Ij s) v fs n) _ _),Oj _ _ _ (by rw[Io,Gd];exact e),Nat.testBit_xor,Nat.testBit_two_pow,
  O9 _ _ _ _ _ (by rw[Gd];exact f),Uv,Ech.proj_bit,CW g]
 by_cases c:j=n+i
 ·have a:decide (j<n)=false:=by simp;omega
  rw[a];simp[c]
 ·have a:decide (n+i=j)=false:=by simp;omega
  have d:decide (j=n+i)=false:=by simpa using c
  rw[a,d];simp
theorem dE{M':Nat}(d:AC M rs){v fs q:List Nat}{R:List (List Nat)}(g:fs=(broughtL rs).map fun b=>Ech.low (val b))(u:R.length=(keepL rs rs.length).length)(a:AC M' R)
  (e:∀i,i<(keepL rs rs.length).length->val (R.getD i [])=Ech.proj fs (val (rs.getD ((keepL rs rs.length).getD i 0) [])) (keepL rs rs.length).length^^^2^((keepL rs rs.length).length+i))
  (p:Ac q) (k:val q=Ech.proj fs (val v) (keepL rs rs.length).length) (j:q.length<=M') {c:Nat} (m:Bq rs v c) (i:Nat):Ai (reduceL (broughtL R) q) ((keepL rs rs.length).length+i)=c.testBit i:=by
 have f:((broughtL rs).map val).length=(keepL rs rs.length).length:=by rw[List.length_map,Nm rs _ (Nat.le_refl _),List.take_length]
 have o:=Ech.mark_red (ks:=(GK rs).map val) (R:=R.map val) (B:=(broughtL R).map val) (P:=fun x=>Ech.proj fs x (keepL rs rs.length).length) (W:=(keepL rs rs.length).length) (c:=c) (Ech.proj_xor fs _) (fun x _=>Ech.proj_lt fs x _)
  (fun x w s=>by
   refine Ech.proj_inj (Kk d) (fs:=fs) (by rw[g];simp) ((NO d x).2 ((Mu d x).1 w)) ?_;rw[f];exact s) (VG d) (by rw[Il,List.length_map,u])
  (fun i h=>by
   rw[Il]at h;rw[pm rs i h,<-e i h];simp[List.getD_eq_getElem?_getD,List.getElem?_eq_getElem (show i<R.length by omega)]) (Kk a) (NO a) (by rw[Il];exact m.1)
 rw[Il,m.2,<-k,<-Ie (Fa a) p]at o;rw[<-CW (EO (Fa a) p j).1,o,Ech.shift_high]
end Go.Proofs.YtmmikiikddokgaaGreatDoor
