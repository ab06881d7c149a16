/- Laws for the proof. -/
import Derived.Test.YtfpmnekaockodaaGreatDoorU10
set_option linter.all false
open Go.Proofs.Tryz
open List renaming getD_eq_getElem?_getD->U,getElem?_eq_getElem->α,take_succ_eq_append_getElem->β,take_length->δ,mem_append_left->ε,mem_append_right->θ
open Nat renaming le_refl->γ,testBit_two_pow->ζ,testBit_xor->η,eq_of_testBit_eq->ι
namespace Go.Proofs.YtfpmnekaockodaaGreatDoor
open Go.RowKit Go.Sort
set_option maxRecDepth 4000
set_option maxHeartbeats 8000000
variable {l rs:List (List Nat)}{M n:Nat}
def Dc(B:List (List Nat))(v:List Nat):List (List Nat):=if firstI (reduceL B v)<0 then B else B++[reduceL B v]
def broughtL(l:List (List Nat)):List (List Nat):=l.foldl Dc []
def Ay.addT{B:List (List Nat)}(h:Ay M B){v:List Nat}(c:Ac v)(b:v.length<=M):Ay M (Dc B v):=by
 unfold Dc;split
 ·exact h
 ·intro x a
  rcases List.mem_append.1 a with a|a
  ·exact h x a
  ·rw[List.mem_singleton.1 a];exact EU h c b
def pM{B:List (List Nat)}(h:Ay M B){v:List Nat}(c:Ac v)(d:v.length<=M):(Dc B v).map val=Ech.addT (B.map val) (val v):=by
 obtain⟨b,e⟩:=EU h c d;unfold Dc Ech.addT;rw[<-Ip h c];by_cases a:val (reduceL B v)=0
 ·rw[if_pos ((IY b).2 a),if_pos a]
 ·rw[if_neg (fun k=>a ((IY b).1 k)),if_neg a];simp
def pL(B:List (List Nat))(v:List Nat):(Dc B v).length<=B.length+1:=by
 unfold Dc;split
 ·omega
 ·simp
def LP{M:Nat}:∀(l B:List (List Nat)),Ay M l->Ay M B->Ay M (l.foldl Dc B)/\(l.foldl Dc B).map val=(l.map val).foldl Ech.addT (B.map val)/\(l.foldl Dc B).length<=B.length+l.length
 |[],B,_,a=>⟨a,rfl,by simp⟩
 |v::l,B,c,a=>by
  have b:=c v List.mem_cons_self;obtain⟨d,e,f⟩:=LP l (Dc B v) c.tail (a.addT b.1 b.2);refine⟨d,?_,?_⟩
  ·show(l.foldl Dc (Dc B v)).map val=_
   rw[e,pM a b.1 b.2];rfl
  ·show(l.foldl Dc (Dc B v)).length<=_
   have:=pL B v;simp only[List.length_cons];omega
def Fg(h:Ay M l):Ay M (broughtL l):=(LP l [] h (.nil M)).1
def Sl(h:Ay M l):(broughtL l).map val=(l.map val).foldl Ech.addT []:=(LP l [] h (.nil M)).2.1
def Kv(h:Ay M l):(broughtL l).length<=l.length:=by
 have a:(l.foldl Dc []).length<=l.length:=by simpa using(LP l [] h (.nil M)).2.2
 exact a
def Kw(h:Ay M l):Ech.Tri ((broughtL l).map val):=by rw[Sl h];exact(Ech.foldl_addT _ _ .nil).1
def Og(h:Ay M l)(x:Nat):Ech.Sp ((broughtL l).map val) x↔Ech.Sp (l.map val) x:=by rw[Sl h];exact(Ech.foldl_addT _ _ .nil).2 x
def RQ{k:Nat}(h:k<l.length):broughtL (l.take (k+1))=Dc (broughtL (l.take k)) (l.getD k []):=by
 unfold broughtL;rw[β h,List.foldl_append];simp[U,α h]
def L1(h:Ay M l){v:List Nat}(a:Ac v)(b:v.length<=M):firstI (reduceL (broughtL l) v)<0↔Ech.Sp (l.map val) (val v):=by
 rw[IY (EU (Fg h) a b).1,Ip (Fg h) a,Ech.tri_zero (Kw h),Og h]
def eV(h:Ay M l){v:List Nat}(a:Ac v)(b:v.length<=M):firstI (reduceL (Ce l) v)<0↔Ech.Sp (l.map val) (val v):=by
 rw[IY (EU (TY h) a b).1,Ip (TY h) a,Ech.red_zero (jc h),KH h,Ech.sp_basis]
def keepL(rs:List (List Nat)):Nat->List Nat
 |0=>[]
 |k+1=>if firstI (reduceL (broughtL (rs.take k)) (rs.getD k []))<0 then keepL rs k else keepL rs k++[k]
def Ji(rs:List (List Nat)):Nat->List Nat
 |0=>[]
 |k+1=>if firstI (reduceL (Ce (rs.take k)) (rs.getD k []))<0 then Ji rs k else Ji rs k++[k]
def WY{M:Nat}{rs:List (List Nat)}(h:Ay M rs):∀k,Ji rs k=keepL rs k
 |0=>rfl
 |k+1=>by
  have b:=L1 (h.take k) (h.getD k).1 (h.getD k).2;have c:=eV (h.take k) (h.getD k).1 (h.getD k).2;simp only[Ji,keepL,WY h k];by_cases a:Ech.Sp ((rs.take k).map val) (val (rs.getD k []))
  ·rw[if_pos (b.2 a),if_pos (c.2 a)]
  ·rw[if_neg (fun e=>a (b.1 e)),if_neg (fun e=>a (c.1 e))]
def JW(rs:List (List Nat)):∀k,∀i∈keepL rs k,i<k
 |0,i,h=>by cases h
 |k+1,i,h=>by
  simp only[keepL]at h;split at h
  ·have:=JW rs k i h;omega
  ·rcases List.mem_append.1 h with h|h
   ·have:=JW rs k i h;omega
   ·rw[List.mem_singleton.1 h];omega
def GL(rs:List (List Nat)):∀k,(keepL rs k).length<=k
 |0=>γ _
 |k+1=>by
  have:=GL rs k;simp only[keepL];split
  ·omega
  ·simp;omega
def ND(rs:List (List Nat)):∀k,k<=rs.length->(keepL rs k).length=(broughtL (rs.take k)).length
 |0,_=>by simp[keepL,broughtL]
 |k+1,h=>by
  rw[RQ (by omega)];simp only[keepL,Dc];have:=ND rs k (by omega);split<;>simp[this]
def SI(rs:List (List Nat)):∀k,k<=rs.length->(Ji rs k).length=(Ce (rs.take k)).length
 |0,_=>by simp[Ji,Ce]
 |k+1,h=>by
  rw[gn (by omega)];simp only[Ji,CB];have:=SI rs k (by omega);split
  ·exact this
  ·rw[NC _ _ _ (Qb _ _)]
   simp[this]
def Et(rs:List (List Nat))(ps:List Nat):List (List Nat):=ps.map fun i=>rs.getD i []
def G1(rs:List (List Nat)):List (List Nat):=Et rs (keepL rs rs.length)
def jw(h:Ay M rs)(ps:List Nat):Ay M (Et rs ps):=by
 intro x a;obtain⟨i,_,rfl⟩:=List.mem_map.1 a;exact h.getD i
def OM{M:Nat}{rs:List (List Nat)}(h:Ay M rs):∀k,k<=rs.length->(∀x,Ech.Sp ((Et rs (keepL rs k)).map val) x↔Ech.Sp ((rs.take k).map val) x)/\Ech.Ind ((Et rs (keepL rs k)).map val)
 |0,_=>⟨fun x=>by simp[keepL,Et],Ech.Ind.nil⟩
 |k+1,o=>by
  obtain⟨f,j⟩:=OM h k (by omega);have d:=L1 (h.take k) (h.getD k).1 (h.getD k).2;have ht:(rs.take (k+1)).map val=(rs.take k).map val++[val (rs.getD k [])]:=by
   rw[β (show k<rs.length by omega),List.map_append,U,α (show k<rs.length by omega)];rfl
  rw[ht];simp only[keepL];split
  ·rename_i g
   refine⟨fun x=>?_,j⟩;rw[f];refine⟨fun e=>e.mono fun a b=>ε _ b,fun e=>e.of fun a b=>?_⟩;rcases List.mem_append.1 b with b|b
   ·exact .of_mem b
   ·rw[List.mem_singleton.1 b];exact d.1 g
  ·rename_i g
   have m:(Et rs (keepL rs k++[k])).map val=(Et rs (keepL rs k)).map val++[val (rs.getD k [])]:=by simp[Et]
   rw[m];refine⟨fun x=>⟨fun e=>e.of fun a b=>?_,fun e=>e.of fun a b=>?_⟩,j.snoc fun e=>g (d.2 ((f _).1 e))⟩
   ·rcases List.mem_append.1 b with b|b
    ·exact((f a).1 (.of_mem b)).mono fun c i=>ε _ i
    ·exact .of_mem (θ _ b)
   ·rcases List.mem_append.1 b with b|b
    ·exact((f a).2 (.of_mem b)).mono fun c i=>ε _ i
    ·exact .of_mem (θ _ b)
def MT(h:Ay M rs)(x:Nat):Ech.Sp ((G1 rs).map val) x↔Ech.Sp (rs.map val) x:=by
 have:=(OM h rs.length (γ _)).1 x;rwa[δ]at this
def qD(h:Ay M rs):Ech.Ind ((G1 rs).map val):=(OM h rs.length (γ _)).2
def KZ(rs:List (List Nat)):((G1 rs).map val).length=(keepL rs rs.length).length:=by simp[G1,Et]
def qC(rs:List (List Nat))(i:Nat)(a:i<(keepL rs rs.length).length):((G1 rs).map val).getD i 0=val (rs.getD ((keepL rs rs.length).getD i 0) []):=by
 simp[G1,Et,U,α a]
def Md(h:Ay M rs):(keepL rs rs.length).length=(Ce rs).length:=by
 rw[<-WY h,SI rs _ (γ _),δ]
def chosenL(ps:List Nat)(p:Nat->Bool):Nat->List Nat
 |0=>[]
 |n+1=>if p n=true then chosenL ps p n++[ps.getD n 0]else chosenL ps p n
def RU(ps:List Nat){p q:Nat->Bool}:∀n,(∀i,i<n->p i=q i)->chosenL ps p n=chosenL ps q n
 |0,_=>rfl
 |n+1,h=>by simp only[chosenL];rw[RU ps n fun i a=>h i (by omega),h n (by omega)]
def Ol(ps:List Nat)(p:Nat->Bool):∀n,(chosenL ps p n).length<=n
 |0=>γ _
 |n+1=>by
  have:=Ol ps p n;simp only[chosenL];split
  ·simp;omega
  ·omega
def Om(ps:List Nat)(p:Nat->Bool):∀n,n<=ps.length->List.Sublist (chosenL ps p n) (ps.take n)
 |0,_=>by simp[chosenL]
 |n+1,h=>by
  rw[β (show n<ps.length by omega)];simp only[chosenL];split
  ·refine(Om ps p n (by omega)).append ?_
   simp[U,α (show n<ps.length by omega)]
  ·exact(Om ps p n (by omega)).trans (List.sublist_append_left _ _)
def Uf{p:Nat->Bool}(b:n<=(keepL rs rs.length).length):∀i∈chosenL (keepL rs rs.length) p n,i<rs.length:=fun i a=>
 JW rs _ i (List.mem_of_mem_take ((Om _ p n b).subset a))
def Ek(rs:List (List Nat))(ps:List Nat):List Nat:=ps.foldl (fun x i=>xorL x (rs.getD i [])) []
def V3{M:Nat}{rs:List (List Nat)}(h:Ay M rs):∀(ps:List Nat) (x:List Nat),Ac x->x.length<=M->Ac (ps.foldl (fun x i=>xorL x (rs.getD i [])) x)/\(ps.foldl (fun x i=>xorL x (rs.getD i [])) x).length<=M
 |[],x,a,b=>⟨a,b⟩
 |i::ps,x,a,b=>V3 h ps _ (L0 a (h.getD i).1) (by rw[BS];have:=(h.getD i).2;omega)
def Ur(h:Ay M rs)(ps:List Nat):Ac (Ek rs ps)/\(Ek rs ps).length<=M:=V3 h ps [] Ac.nil (Nat.zero_le _)
def XM(rs:List (List Nat))(ps:List Nat)(i:Nat):Ek rs (ps++[i])=xorL (Ek rs ps) (rs.getD i []):=by simp[Ek]
def PQ{M:Nat}{rs:List (List Nat)}(h:Ay M rs)(ps:List Nat)(c:Nat):∀n,n<=ps.length->val (Ek rs (chosenL ps (fun i=>c.testBit i) n))=Ech.lin ((Et rs ps).map val) c n
 |0,_=>rfl
 |n+1,b=>by
  have a:((Et rs ps).map val).getD n 0=val (rs.getD (ps.getD n 0) []):=by simp[Et,U,α (show n<ps.length by omega)]
  simp only[chosenL,Ech.lin];rw[a];split
  ·rw[XM,Xs (Ur h _).1 (h.getD _).1,PQ h ps c n (by omega)]
  ·rw[PQ h ps c n (by omega),Nat.xor_zero]
def Cb(rs:List (List Nat))(v:List Nat)(c:Nat):Prop:=c<2^(keepL rs rs.length).length/\Ech.lin ((G1 rs).map val) c (keepL rs rs.length).length=val v
def Ue(h:Ay M rs){v:List Nat}(d:Ech.Sp (rs.map val) (val v)):∃c,Cb rs v c:=by
 obtain⟨c,a,b⟩:=Ech.lin_of_sp ((MT h _).2 d);rw[KZ]at a b;exact⟨c,a,b⟩
def Cb.sum(h:Ay M rs){v:List Nat}{c:Nat}(a:Cb rs v c):val (Ek rs (chosenL (keepL rs rs.length) (fun i=>c.testBit i) (keepL rs rs.length).length))=val v:=by
 rw[PQ h _ _ _ (γ _)];exact a.2
def OI(xs:List Nat)(i j:Nat)(h:i<64*xs.length):Ah (By xs i true) j=(decide (j=i)||Ah xs j):=by
 have e:i/64<xs.length:=by omega
 unfold Ah By setW;rw[DT];by_cases c:j/64=i/64
 ·rw[if_pos ⟨c,e⟩,c]
  by_cases f:j%64=i%64
  ·have a:j=i:=by omega
   subst a;split
   ·rename_i b;rw[b];simp
   ·rename_i b;rw[η,ζ];simp at b;simp[b]
  ·have a:decide (j=i)=false:=by simp;omega
   have d:decide (i%64=j%64)=false:=by simp;omega
   split
   ·rw[a];rfl
   ·rw[η,ζ,a,d];simp
 ·have a:decide (j=i)=false:=by simp;omega
  rw[if_neg (fun k=>c k.1),a];rfl
def N8{xs:List Nat}(h:Ac xs)(i:Nat)(on:Bool):Ac (By xs i on):=h.set _ _ (MM _ _ _ (h.get _) (by omega))
def B9(row v fs:List Nat):Nat->List Nat
 |0=>row
 |k+1=>if Ah v (fs.getD k 0)=true then By (B9 row v fs k) k true else B9 row v fs k
def IB(row v fs:List Nat):∀k,(B9 row v fs k).length=row.length
 |0=>rfl
 |k+1=>by
  simp only[B9];split
  ·rw[Iu,IB row v fs k]
  ·exact IB row v fs k
def I1{row:List Nat}(h:Ac row)(v fs:List Nat):∀k,Ac (B9 row v fs k)
 |0=>h
 |k+1=>by
  simp only[B9];split
  ·exact N8 (I1 h v fs k) _ _
  ·exact I1 h v fs k
def PG(row v fs:List Nat)(j:Nat):∀k,k<=64*row.length->Ah (B9 row v fs k) j=(Ah row j||(decide (j<k)&&Ah v (fs.getD j 0)))
 |0,_=>by simp[B9]
 |k+1,h=>by
  have a:=PG row v fs j k (by omega);simp only[B9];by_cases d:j=k
  ·subst d
   have e:decide (j<j)=false:=by simp
   have b:decide (j<j+1)=true:=by simp
   rw[e]at a;rw[b];split
   ·rename_i c
    rw[OI _ _ _ (by rw[IB];omega),a,c];simp
   ·rename_i c
    rw[a,show Ah v (fs.getD j 0)=false by simpa using c];simp
  ·have b:decide (j<k+1)=decide (j<k):=by by_cases f:j<k<;>simp[f]<;>omega
   rw[b];split
   ·rw[OI _ _ _ (by rw[IB];omega),a];simp[d]
   ·exact a
def BA(n:Nat):List Nat:=List.replicate n 0
def Iv(n:Nat):Ac (BA n):=fun x a=>by rw[List.eq_of_mem_replicate a];show 0<18446744073709551616;decide
def Gl(n:Nat):(BA n).length=n:=by simp[BA]
def UG(n j:Nat):Ah (BA n) j=false:=by
 unfold Ah BA;rw[U,List.getElem?_replicate];split<;>simp
def rI{s:Nat}{v fs:List Nat}(b:Ac v)(a:n<=64*s):val (B9 (BA s) v fs n)=Ech.proj fs (val v) n:=by
 apply ι;intro j;rw[CL (I1 (Iv s) v fs n),PG _ _ _ _ _ (by rw[Gl];exact a),UG,Ech.proj_bit,CL b];simp
def qP{s i:Nat}{v fs:List Nat}(f:Ac v)(e:n<=64*s)(d:n+i<64*s):val (By (B9 (BA s) v fs n) (n+i) true)=Ech.proj fs (val v) n^^^2^(n+i):=by
 apply ι;intro j
 rw[CL (N8 (I1 (Iv s) v fs n) _ _),OI _ _ _ (by rw[IB,Gl];exact d),η,ζ,
  PG _ _ _ _ _ (by rw[Gl];exact e),UG,Ech.proj_bit,CL f]
 by_cases b:j=n+i
 ·have a:decide (j<n)=false:=by simp;omega
  rw[a];simp[b]
 ·have a:decide (n+i=j)=false:=by simp;omega
  have c:decide (j=n+i)=false:=by simpa using b
  rw[a,c];simp
def eO{M':Nat}(d:Ay M rs){v fs q:List Nat}{R:List (List Nat)}(g:fs=(broughtL rs).map fun b=>Ech.low (val b))(s:R.length=(keepL rs rs.length).length)(a:Ay M' R)
  (e:∀i,i<(keepL rs rs.length).length->val (R.getD i [])=Ech.proj fs (val (rs.getD ((keepL rs rs.length).getD i 0) [])) (keepL rs rs.length).length^^^2^((keepL rs rs.length).length+i))
  (p:Ac q) (k:val q=Ech.proj fs (val v) (keepL rs rs.length).length) (j:q.length<=M') {c:Nat} (m:Cb rs v c) (i:Nat):Ah (reduceL (broughtL R) q) ((keepL rs rs.length).length+i)=c.testBit i:=by
 have f:((broughtL rs).map val).length=(keepL rs rs.length).length:=by rw[List.length_map,ND rs _ (γ _),δ]
 have o:=Ech.mark_red (ks:=(G1 rs).map val) (R:=R.map val) (B:=(broughtL R).map val) (P:=fun x=>Ech.proj fs x (keepL rs rs.length).length) (W:=(keepL rs rs.length).length) (c:=c) (Ech.proj_xor fs _) (fun x _=>Ech.proj_lt fs x _)
  (fun x y r=>by
   refine Ech.proj_inj (Kw d) (fs:=fs) (by rw[g];simp) ((Og d x).2 ((MT d x).1 y)) ?_;rw[f];exact r) (qD d) (by rw[KZ,List.length_map,s])
  (fun i h=>by
   rw[KZ]at h;rw[qC rs i h,<-e i h];simp[U,α (show i<R.length by omega)]) (Kw a) (Og a) (by rw[KZ];exact m.1)
 rw[KZ,m.2,<-k,<-Ip (Fg a) p]at o;rw[<-CL (EU (Fg a) p j).1,o,Ech.shift_high]
variable {rs:List (List Nat)}{xs:List Nat}{vs:List Value}{n B B':Nat}{v u:Value}{w w':World}
def DW(xs:List Nat):List Value:=xs.map fun(x:Nat)=>Value.int .i64 (x:Int)
def SE(xs:List Nat)(i:Nat)(h:i<xs.length):(DW xs)[i]? =some (.int .i64 ((xs.getD i 0:Nat):Int)):=by
 simp[DW,α h,U]
def hU(xs:List Nat)(i x:Nat):(DW xs).set i (.int .i64 (x:Int))=DW (xs.set i x):=by
 simp[DW,List.map_set]
def IntsAt(w:World)(a:Option Addr)(n:Nat)(xs:List Nat):Prop:=
 xs.length=n/\(n=0\/∃b off,a=some ⟨b,off,none⟩/\∀i,i<n->w.cell? ⟨b,off+i,none⟩=some (.int .i64 ((xs.getD i 0:Nat):Int)))
def IntsAt.at{a:Option Addr}(h:IntsAt w a n xs){i:Nat}(d:i<n):
  ∃b off,a=some ⟨b,off,none⟩/\∀i,i<n->w.cell? ⟨b,off+i,none⟩=some (.int .i64 ((xs.getD i 0:Nat):Int)):=by
 rcases h.2 with c|c
 ·omega
 ·exact c
def IntsAt.below{a:Option Addr}(h:IntsAt w a n xs)(f:Below w.heap.size w w'):IntsAt w' a n xs:=by
 refine⟨h.1,?_⟩;rcases h.2 with e|⟨b,off,rfl,c⟩
 ·exact .inl e
 ·exact .inr ⟨b,off,rfl,fun i d=>(f.cell (World.block_lt_of_cell? w _ (c i d))).trans (c i d)⟩
def AC(w:World)(B:Nat)(v:Value)(xs:List Nat):Prop:=w.ownsRow B 3 1 v xs.length (DW xs)
def AC.ints(h:AC w B v xs):∃a c,v=.slice a xs.length c/\IntsAt w a xs.length xs:=by
 have b:w.ownsRow B 3 1 v xs.length (DW xs):=h;rcases h.2 with⟨rfl,d⟩|⟨g,cap,e,rfl,k,m,p,o,j,ht⟩
 ·exact⟨none,0,by rw[d],rfl,.inl d⟩
 ·refine⟨_,cap,rfl,rfl,.inr ⟨g,0,rfl,fun i f=>?_⟩⟩
  rw[Nat.zero_add,b.cellAt i (by omega),SE xs i f]
def AC.nil(w:World)(B:Nat):AC w B (.slice none 0 0) []:=World.ownsRow_nil _ _ _ _
def AC.mono(h:AC w B v xs)(d:B'<=B):AC w B' v xs:=by
 refine⟨h.1,?_⟩;rcases h.2 with b|⟨g,cap,a,c,e,r⟩
 ·exact .inl b
 ·exact .inr ⟨g,cap,a,c,Nat.le_trans d e,r⟩
def AC.below(h:AC w B v xs)(a:Below w.heap.size w w'):AC w' B v xs:=LL h a
def P8{e f:TypeId}{m:Nat}{cs ds:List Value}(b:e≠f)(h:w.ownsRow B e 1 v n cs)(k:w.ownsRow B' f 1 u m ds):EO u v:=by
 rcases h.2 with⟨rfl,_⟩|⟨g,cap,i,rfl,p,o,_⟩
 ·by_cases e:u.ownBlock=none
  ·exact .inl e
  ·exact .inr e
 ·rcases k.2 with⟨rfl,_⟩|⟨g',c,d,rfl,j,a,_⟩
  ·exact .inl rfl
  ·right
   intro e;simp only[Value.ownBlock,Option.some.injEq]at e;rw[e]at a;rw[o]at a;simp at a;exact b a.2
def AC.keptV(h:AC w B v xs)(k:AJ w B' u vs rs)(a:w.grownBy w' u.ownBlock):AC w' B v xs:=
 World.ownsRow.kept h a (P8 (by decide) k.top h)
def Own.keptI{b:List Nat}(h:Own w B v xs)(k:AC w B' u b)(a:w.grownBy w' u.ownBlock):Own w' B v xs:=
 h.kept a (P8 (by decide) k h.2)
def AJ.keptI{c:List Nat}(h:AJ w B v vs rs)(k:AC w B' u c)(a:w.grownBy w' u.ownBlock):AJ w' B v vs rs:=
 ⟨h.top.kept a (P8 (by decide) k h.top),fun i u b=>(h.rows i u b).keptI k a,h.apart⟩
def Vp:(Tryz.prog.info? 3).map (fun i=>(i.zero,i.size,i.bytes))=some (some (.int .i64 0),1,8):=by kernel_rfl
def R5{ops:Array Oper}{rest:List Oper}{o:Oper}{act:Act}{Q:Exit->Act->World->Prop}(d:o.guard=none)(s x:Operand)
  (C:o.op=.call {callee:=.builtin .append,args:=#[s,x],argTypes:=#[27,27]}) (B:Nat) (v:Value) (xs:List Nat) (y:Nat)
  (D:act.eval s=v) (H:act.eval x=.slice (some ⟨w.heap.size,0,none⟩) 1 1) (h:AC w B v xs) (q:B<=w.heap.size) (J:xs.length<=1048576)
  (r:∀m w',AC w' B m (xs++[y])->w.grownBy w' v.ownBlock->wpList Tryz.prog ops Q rest (act.put o.dst m) w'):wpList Tryz.prog ops Q (o::rest) act (w.alloc (.cells #[.int .i64 (y:Int)] 3)):=by
 obtain⟨I,A,f,g,i⟩:=info_parts Vp;have c:Below w.heap.size w (w.alloc (.cells #[.int .i64 (y:Int)] 3)):=(Below.refl _ _).alloc (γ _) _;have p:=h.below c
 refine wpList_append_own _ d s x 27 C B 3 I (.int .i64 0) 1 8 underlying27 A f g i rfl (by decide) v xs.length (DW xs) D p ⟨w.heap.size,0,none⟩ 1 1 [.int .i64 (y:Int)] H rfl (fun j u k=>?_)
  (fun u E=>by rw[List.mem_singleton.1 E];rfl) (by unfold maxLen;omega) (by omega) (Nat.le_trans q c.size) ?_
 ·match j with
  |0=>
   have z:(w.alloc (.cells #[.int .i64 (y:Int)] 3)).cell? ⟨w.heap.size,0,none⟩=some (.int .i64 (y:Int)):=by rw[World.cell?_alloc_at _ _ _ _ rfl];rfl
   simpa [Addr.add,z]using k
  |j+1=>simp at k
 ·intro v' w' a b _
  refine r v' w' ?_ (Bx (CD c _) b (.inl rfl));have e:DW xs++[.int .i64 (y:Int)]=DW (xs++[y]):=by simp[DW]
  rw[e]at a;show w'.ownsRow B 3 1 v' (xs++[y]).length (DW (xs++[y]));rw[List.length_append];exact a
def AC.grown(h:AC w B v xs)(b:w.grownBy w' v.ownBlock)(a:B<=w.heap.size):Below B w w':=CA b a fun k c=>(World.ownsRow.lt h k c).1
def AJ.grown(h:AJ w B v vs rs)(b:w.grownBy w' v.ownBlock)(a:B<=w.heap.size):Below B w w':=CA b a fun k c=>(h.top.lt k c).1
def oI(rs:List (List Nat))(k:Nat)(a:k<rs.length):(firstI (reduceL (broughtL (rs.take k)) (rs.getD k []))<0->keepL rs (k+1)=keepL rs k/\broughtL (rs.take (k+1))=broughtL (rs.take k))/\
  (0<=firstI (reduceL (broughtL (rs.take k)) (rs.getD k []))->keepL rs (k+1)=keepL rs k++[k]/\broughtL (rs.take (k+1))=broughtL (rs.take k)++[reduceL (broughtL (rs.take k)) (rs.getD k [])]):=by
 rw[RQ a];unfold Dc;simp only[keepL];constructor
 ·intro h
  rw[if_pos h,if_pos h];exact⟨rfl,rfl⟩
 ·intro h
  rw[if_neg (by omega),if_neg (by omega)];exact⟨rfl,rfl⟩
def KU(a:Option Addr)(n c:Nat)(rs:List (List Nat))(w:World)(ht:Tab w)(h:VecsAt w a n rs)(hf:Ay 1048576 rs)(hn:n<=100000):
  Calls Tryz.prog 188 #[.slice a n c] w fun e w'=> ∃vk vb vs,e=.returned (.tuple #[vk,vb])/\AC w' w.heap.size vk (keepL rs rs.length)/\AJ w' w.heap.size vb vs (broughtL rs)/\Below w.heap.size w w':=by
 obtain rfl:n=rs.length:=h.1.symm;go_enter func188,ntmps188;go_wp2
 go_loopw [2,3,9] (fun kv bv i wr=> ∃k:Nat,k<=rs.length/\i=.int .i64 k/\∃ak ck Z cb vs,kv=.slice ak (keepL rs k).length ck/\bv=.slice Z (broughtL (rs.take k)).length cb/\
  Hid (AC wr w.heap.size (.slice ak (keepL rs k).length ck) (keepL rs k))/\Hid (AJ wr w.heap.size (.slice Z (broughtL (rs.take k)).length cb) vs (broughtL (rs.take k)))/\Hid (Below w.heap.size w wr)) (fun _ _ i _=>rs.length-(intOf i).toNat)
 case atStart=>exact⟨0,Nat.zero_le _,rfl,none,0,none,0,[],rfl,rfl,Ab (AC.nil _ _),Ab (AJ.nil _ _),Ab (Below.refl _ _)⟩
 case round=>
  obtain⟨k,hk,rfl,ak,ck,Z,cb,vs,rfl,rfl,HI,J,HB⟩:=hrel;by_cases W:k<rs.length
  ·have K:=Aa HB
   obtain⟨b,off,rfl,hc⟩:=(h.below K).at W;obtain⟨ai,ci,q,L⟩:=hc k W;obtain⟨_,_,e1,N⟩:=(Aa J).vecs;simp only[Value.slice.injEq,true_and]at e1;obtain⟨rfl,rfl⟩:=e1;have T:=Fg (hf.take k);have au:=Kv (hf.take k);have aw:(rs.take k).length<=k:=List.length_take_le _ _;have av:=GL rs k;have HR:=Ab (N7 Z _ cb (broughtL (rs.take k)) ai _ ci (rs.getD k []) wr (ht.below K) N T L (by omega) (hf.getD k).2);have aq:=(EU T (hf.getD k).1 (hf.getD k).2).2;have HF:=Ab (fun(w1:World) (Q:Option Addr) (cr:Nat) (hb:Below wr.heap.size wr w1) (Y:RowAt w1 Q (reduceL (broughtL (rs.take k)) (rs.getD k [])).length (reduceL (broughtL (rs.take k)) (rs.getD k [])))=>JF Q _ cr (reduceL (broughtL (rs.take k)) (rs.getD k [])) w1 (ht.below (Ad K hb)) Y aq);obtain⟨ag,ah⟩:=oI rs k W;have O:=Ab ag;have P:=Ab ah;clear hc L h T N ag ah;generalize rs.getD k []=y at*;generalize broughtL (rs.take k)=bk at*;generalize keepL rs k=kk at*;generalize reduceL bk y=r at*;have an:bk.length<=1048576:=by omega
   have ap:kk.length<=1048576:=by omega
   by_cases z:firstI r<0
   ·obtain⟨s,x⟩:=Aa O z
    have ao:decide (0<=firstI r)=false:=by rw[decide_eq_false_iff_not];omega
    have m:=Ab s;have o:=Ab x;clear z s x O P;generalize firstI r=f at*;go_wp2_with fail;refine(Aa HR).mono ?_;rintro e w1 ⟨v,rfl,X,d⟩;obtain⟨Q,cr,rfl,Y⟩:=X.row;have p:=Ab (Aa HF w1 Q cr d Y);have R:=(Aa HI).below d;have S:=(Aa J).below d;have j:=Ab (Ad K d);clear d X Y HF HR HB HI J K q;go_wp2_with fail;refine(Aa p).mono ?_;rintro e w2 ⟨rfl,hw⟩;obtain rfl:=hw.symm;rw[<-Aa m];rw[<-Aa o];rw[<-Aa m]at R;rw[<-Aa o]at S;have g:=Ab R;have A:=Ab S;clear R S m o p;go_wp2;go_roundw
    case rel=>exact⟨k+1,by omega,by go_num,ak,ck,Z,cb,vs,rfl,rfl,g,A,j⟩
    case measure=>simp[intOf];omega
   ·obtain⟨s,x⟩:=Aa P (by omega)
    have ao:decide (0<=firstI r)=true:=by rw[decide_eq_true_iff];omega
    have m:=Ab s;have o:=Ab x;clear z s x O P;generalize firstI r=f at*;go_wp2_with fail;refine(Aa HR).mono ?_;rintro e w1 ⟨v,rfl,X,d⟩;obtain⟨Q,cr,rfl,Y⟩:=X.row;have p:=Ab (Aa HF w1 Q cr d Y);have aa:=Ab ((Aa J).dis_new X);have g:=Ab ((Aa HI).below d);have A:=Ab ((Aa J).below d);have j:=Ab (Ad K d);have ac:=Ab (X.mono K.size);clear d X Y HF HR HB HI J K q;go_wp2_with fail;refine(Aa p).mono ?_;rintro e w2 ⟨rfl,hw⟩;obtain rfl:=hw.symm;clear p
    go_wp2_with (first
     |(at_builtin;refine R5 rfl _ _ rfl w.heap.size (.slice ak kk.length ck) kk k rfl rfl (Aa g) (Aa j).size ap ?_;intro s4 w4 D I;have E:=(Aa A).keptI (Aa g) I;have af:=(Aa ac).keptI (Aa g) I;have C:=(Aa j).trans ((Aa g).grown I (Aa j).size);rw[<-Aa m]at D;obtain⟨a4,c4,rfl,_⟩:=D.ints;clear I)
     |(at_builtin;refine fm rfl _ _ rfl w.heap.size (.slice Z bk.length cb) vs bk (.slice Q r.length cr) r rfl rfl E C.size af (Aa aa) an ?_;intro s5 w5 H V;have ae:=D.keptV E V;have ad:=C.trans (E.grown V C.size);rw[<-Aa o]at H;obtain⟨a5,c5,rfl⟩:=H.shape;have am:=Ab H;have al:=Ab ae;have aj:=Ab ad;clear H ae ad V D E af C g A ac aa j m o))
    go_roundw
    case rel=>exact⟨k+1,by omega,by go_num,a4,c4,a5,c5,_,rfl,rfl,al,am,aj⟩
    case measure=>simp[intOf];omega
  ·obtain rfl:k=rs.length:=by omega
   rw[δ]at J;rw[δ];clear h;go_wp2;go_ret2;exact⟨_,_,_,rfl,Aa HI,Aa J,Aa HB⟩
def Vs(a:Option Addr)(n c:Nat)(rs:List (List Nat))(w:World)(ht:Tab w)(h:VecsAt w a n rs)(j:Ay 1048576 rs)(o:n<=100000):
  Calls Tryz.prog 163 #[.slice a n c] w fun e w'=> ∃d,e=.returned d/\AC w' w.heap.size d (keepL rs rs.length)/\Below w.heap.size w w':=by
 have f:=Ab (KU a n c rs w ht h j o);clear h j;generalize keepL rs rs.length=s at*;generalize broughtL rs=r at*;go_enter func163,ntmps163;go_wp2_with fail;refine(Aa f).mono ?_;rintro e w1 ⟨d,x,vs,rfl,b,g,i⟩;obtain⟨p,c1,rfl,_⟩:=b.ints;obtain⟨q,c2,rfl⟩:=g.shape;have m:=Ab b;have k:=Ab i;clear b g i f;go_wp2;go_ret;exact⟨_,rfl,Aa m,Aa k⟩
def Fp(rs:List (List Nat))(xs:List Nat):Bool:= !decide (firstI (reduceL (broughtL rs) xs)<0)
def mK(a:Option Addr)(n c:Nat)(rs:List (List Nat))(i:Option Addr)(m r:Nat)(xs:List Nat)(w:World)(ht:Tab w)(h:VecsAt w a n rs)(f:Ay 1048576 rs)(s:RowAt w i m xs)(I:n<=100000)(H:m<=1048576):
  Calls Tryz.prog 349 #[.slice a n c,.slice i m r] w fun e w'=>e=.returned (.bool (Fp rs xs))/\Below w.heap.size w w':=by
 have p:=Ab (KU a n c rs w ht h f I);have o:=Fg f;have E:=Kv f;have J:=h.1;have x:Fp rs xs= !decide (firstI (reduceL (broughtL rs) xs)<0):=rfl;rw[x];clear h f x;have q:=Ab (fun(w1:World) (j:Option Addr) (c1:Nat) (d:Below w.heap.size w w1) (K:VecsAt w1 j (broughtL rs).length (broughtL rs))=>Qu j _ c1 (broughtL rs) i m r xs w1 (ht.below d) K o (s.below d) (by omega) H);generalize keepL rs rs.length=N at*;generalize broughtL rs=D at*;generalize decide (firstI (reduceL D xs)<0)=L at*;clear s;go_enter func349,ntmps349;go_wp2_with fail;refine(Aa p).mono ?_;rintro e w1 ⟨P,O,vs,rfl,y,z,d⟩;obtain⟨j,c1,rfl,_⟩:=y.ints;obtain⟨C,c2,rfl,b⟩:=z.vecs;have g:=Ab (Aa q w1 C c2 d b);have A:=Ab d;clear y z d p q b;go_wp2_with fail;refine(Aa g).mono ?_;rintro e w2 ⟨rfl,k⟩;go_wp2;go_ret;exact⟨rfl,Ad (Aa A) k⟩
end Go.Proofs.YtfpmnekaockodaaGreatDoor
