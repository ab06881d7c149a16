/-
  Laws that the proof stands on.
-/
import Derived.Test.YtfpfcnfmigaphaaGreatDoorU28
namespace Go.Proofs.YtfpfcnfmigaphaaGreatDoor
open Go.RowKit Go.Sort
set_option linter.unusedVariables false
set_option linter.unusedSimpArgs false
set_option maxRecDepth 4000
set_option maxHeartbeats 8000000
variable {L:List (List Nat×ByteArray)}{ss:List ByteArray}{m:Nat}
theorem VC:∀(l:List Nat) (a n:Nat),l.Pairwise (· < ·)->(∀x∈l,a<=x/\x<n)->a<=n->l.length<=n-a/\(l.length=n-a->∀x,a<=x->x<n->x∈l)
 |[],a,n,_,_,_=>⟨Nat.zero_le _,fun h x d f=>by simp at h;omega⟩
 |y::l,a,n,hp,b,k=>by
  have d:=b y List.mem_cons_self;obtain⟨o,j⟩:=VC l (y+1) n (List.pairwise_cons.1 hp).2 (fun x c=>⟨(List.pairwise_cons.1 hp).1 x c,(b x (List.mem_cons_of_mem _ c)).2⟩) (by omega);refine⟨by rw[List.length_cons];omega,fun h x f g=>?_⟩;rw[List.length_cons]at h;have i:y=a:=by omega
  subst i;by_cases e:x=y
  ·rw[e];exact List.mem_cons_self
  ·exact List.mem_cons_of_mem _ (j (by omega) x (by omega) g)
theorem oe{B:List Nat}{k:Nat}(h:Ech.Red B)(p:∀b∈B,b<2^k):B.length<=k/\(B.length=k->∀i,i<k->2^i∈B):=by
 have hp:(B.map Ech.low).Pairwise (· < ·):=by
  rw[List.pairwise_map];exact h.2.imp fun h=>h.1
 have v:∀x∈B.map Ech.low,0<=x/\x<k:=fun x w=>by
  obtain⟨b,d,rfl⟩:=List.mem_map.1 w;exact⟨Nat.zero_le _,Ech.low_lt (h.1 b d) (p b d)⟩
 obtain⟨r,n⟩:=VC _ 0 k hp v (Nat.zero_le _);rw[List.length_map]at r n;refine⟨by omega,fun e i s=>?_⟩;obtain⟨b,a,f⟩:=List.mem_map.1 (n (by omega) i (Nat.zero_le _) s);suffices b=2^i by rw[<-this];exact a
 apply Nat.eq_of_testBit_eq;intro j;rw[Nat.testBit_two_pow];by_cases l:i=j
 ·rw[decide_eq_true l,<-l,<-f,Ech.low_bit (h.1 b a)]
 ·rw[decide_eq_false l]
  by_cases u:j<k
  ·obtain⟨c,o,g⟩:=List.mem_map.1 (n (by omega) j (Nat.zero_le _) u)
   have:=(h.two a o (fun q=>l (by rw[<-f,<-g,q]))).2;rwa[g]at this
  ·exact Nat.testBit_lt_two_pow (Nat.lt_of_lt_of_le (p b a) (Nat.pow_le_pow_right (by omega) (by omega)))
theorem aA{B:List Nat}{k x:Nat}(h:∀b∈B,b<2^k)(a:Ech.Sp B x):x<2^k:=
 Ech.Sp.ind (P:=fun x=>x<2^k) (Nat.two_pow_pos k) (fun b x c a=>Nat.xor_lt_two_pow (h b c) a) a
theorem mO{k:Int}{xs:List Nat}(b:Ac xs)(h:AR k xs=true):val xs<2^k.toNat:=by
 apply Nat.lt_pow_two_of_testBit;intro i c;rw[CZ b];cases a:Ah xs i
 ·rfl
 ·have:=(FV h).2.2 i a;omega
theorem Oj{M:Nat}{k:Int}{V:List (List Nat)}(f:Az M V)(n:∀v∈V,AR k v=true):(Ci V).length<=k.toNat/\((Ci V).length=k.toNat->∀i,i<k.toNat->Ech.Sp (V.map val) (2^i)):=by
 have c:=JZ f
 have d:∀b∈Ech.basis (V.map val),b<2^k.toNat:=fun b c=>by
  refine aA (B:=V.map val) (fun x o=>?_) ((Ech.sp_basis _ _).1 (.of_mem c));obtain⟨v,a,rfl⟩:=List.mem_map.1 o;exact mO (f v a).1 (n v a)
 obtain⟨h,j⟩:=oe (Ech.red_basis (V.map val)) d;have g:=congrArg List.length c;rw[List.length_map]at g;rw[g];exact⟨h,fun e i l=>(Ech.sp_basis _ _).1 (.of_mem (j e i l))⟩
def zC:List Nat×ByteArray:=([],ByteArray.empty)
def vecsC(L:List (List Nat×ByteArray)):List (List Nat):=L.map Prod.fst
def KW(L:List (List Nat×ByteArray))(ps:List Nat):List (List Nat×ByteArray):=ps.map fun i=>L.getD i zC
def CI(L:List (List Nat×ByteArray)):List (List Nat×ByteArray):=KW L (keepL (vecsC L) L.length)
def F2(L:List (List Nat×ByteArray))(ps:List Nat):List ByteArray:=ps.map fun i=>(L.getD i zC).2
def blockC(k:Int)(L:List (List Nat×ByteArray))(b:Nat):ByteArray:=st (CD (F2 (CI L) (exL (vecsC (CI L)) (unitL k (b:Int)))))
def Ef(k:Int)(L:List (List Nat×ByteArray)):Bool:=decide (0<sizeOfK k)&&decide (k<=((keepL (vecsC L) L.length).length:Int))
def solveC(k:Int)(L:List (List Nat×ByteArray)):List ByteArray:=if Ef k L=true then(List.range k.toNat).map (blockC k L)else []
theorem Iw(L:List (List Nat×ByteArray)):(vecsC L).length=L.length:=by simp[vecsC]
theorem Tm(L:List (List Nat×ByteArray))(i:Nat):(vecsC L).getD i []=(L.getD i zC).1:=by
 unfold vecsC;rw[List.getD_eq_getElem?_getD,List.getElem?_map,List.getD_eq_getElem?_getD];cases L[i]? <;>rfl
theorem Oa(L:List (List Nat×ByteArray)):vecsC (CI L)=Gr (vecsC L):=by
 unfold CI KW Gr ED;rw[Iw];unfold vecsC;rw[List.map_map];refine List.map_congr_left fun i _=>?_;show(L.getD i zC).1=_;exact(Tm L i).symm
theorem QW(L:List (List Nat×ByteArray)):(CI L).length=(keepL (vecsC L) L.length).length:=by simp[CI,KW]
theorem Uj{x:List Nat×ByteArray}(h:x∈CI L):x∈L:=by
 obtain⟨i,b,rfl⟩:=List.mem_map.1 h;have a:=Js (vecsC L) _ i b;rw[List.getD_eq_getElem?_getD,List.getElem?_eq_getElem a];exact List.getElem_mem a
def Dh(M:Nat)(L:List (List Nat×ByteArray)):Prop:=Az M (vecsC L)
theorem Dh.kept{M:Nat}(h:Dh M L):Dh M (CI L):=by
 unfold Dh;rw[Oa];exact gD h _
theorem Wd(f:Nat->Nat)(a b:List Nat):∀n,Cw f (xorL a b) n=Cw f a n^^^Cw f b n
 |0=>by simp[Cw]
 |n+1=>by
  unfold Cw;rw[Uq,Wd f a b n];cases Ah a n<;>cases Ah b n
  ·simp
  ·simp[Nat.xor_assoc]
  ·simp only[Bool.xor_false,if_true,Bool.false_eq_true,if_false]
   rw[Nat.xor_assoc,Nat.xor_comm (Cw f b n),<-Nat.xor_assoc]
  ·simp only[Bool.xor_self,if_true,Bool.false_eq_true,if_false]
   rw[Nat.xor_assoc,Nat.xor_comm (f n),Nat.xor_assoc,Nat.xor_self,Nat.xor_zero]
theorem Wc(f:Nat->Nat):∀n,Cw f [] n=0
 |0=>rfl
 |n+1=>by
  unfold Cw;rw[EC [] n (by simp),Wc f n];rfl
def JA(ss:List ByteArray)(m:Nat)(x:List Nat×ByteArray):Prop:=DO ss x.1 x.2=true/\x.2.size=m
theorem U3{ss:List ByteArray}{m:Nat}{L:List (List Nat×ByteArray)}(j:Nat):∀(ps:List Nat) (a x:List Nat),(∀i∈ps,JA ss m (L.getD i zC))->a.getD j 0=Cw (fun b=>(tx (ss.getD b ByteArray.empty)).getD j 0) x ss.length->
  ((F2 L ps).foldl (fun a s=>xorL a (tx s)) a).getD j 0=Cw (fun b=>(tx (ss.getD b ByteArray.empty)).getD j 0) (ps.foldl (fun x i=>xorL x ((vecsC L).getD i [])) x) ss.length
 |[],a,x,_,h=>h
 |i::ps,a,x,hp,h=>by
  unfold F2;rw[List.map_cons,List.foldl_cons,List.foldl_cons];refine U3 j ps _ _ (fun q c=>hp q (List.mem_cons_of_mem _ c)) ?_;rw[Dx,Wd,h,Tm,(JW.1 (hp i List.mem_cons_self).1).1 j]
theorem U1{ss:List ByteArray}{m:Nat}{L:List (List Nat×ByteArray)}:∀(ps:List Nat) (a:List Nat),(∀i∈ps,JA ss m (L.getD i zC))->a.length=m\/(a.length<=m/\ps≠ [])->((F2 L ps).foldl (fun a s=>xorL a (tx s)) a).length=m
 |[],a,_,h=>by
  rcases h with h|h
  ·exact h
  ·exact absurd rfl h.2
 |i::ps,a,hp,h=>by
  unfold F2;rw[List.map_cons,List.foldl_cons];refine U1 ps _ (fun q b=>hp q (List.mem_cons_of_mem _ b)) (.inl ?_);have:=(hp i List.mem_cons_self).2;rw[BV,AQ,this];rcases h with h|h<;>omega
theorem mE{ps:List Nat}{b:Nat}(hp:∀i∈ps,JA ss m (L.getD i zC))(q:Ac (Er (vecsC L) ps))(g:val (Er (vecsC L) ps)=2^b)(o:b<ss.length)(p:(ss.getD b ByteArray.empty).size=m):
  st (CD (F2 L ps))=ss.getD b ByteArray.empty:=by
 apply IQ;rw[DD (fW _)];have c:ps≠ []:=by
  rintro rfl;have k:val (Er (vecsC L) [])=0:=by simp[Er,val]
  rw[k]at g;have:=Nat.two_pow_pos b;omega
 have a:(CD (F2 L ps)).length=m:=U1 ps [] hp (.inr ⟨Nat.zero_le _,c⟩);refine Ei (by rw[a,AQ,p]) fun j _=>?_;have l:=U3 (ss:=ss) (m:=m) (L:=L) j ps [] [] hp (by rw[Wc];rfl)
 have n:∀i,Ah (Er (vecsC L) ps) i=decide (i=b):=fun i=>by
  rw[<-CZ q,g,Nat.testBit_two_pow];by_cases e:i=b
  ·simp[e]
  ·rw[decide_eq_false e,decide_eq_false (fun h=>e h.symm)]
 have d:=L8 (f:=fun b=>(tx (ss.getD b ByteArray.empty)).getD j 0) n ss.length;rw[if_pos o]at d;exact l.trans d
theorem VS{rs:List (List Nat)}(xs:List Nat)(b:Az 1048576 rs)(d:rs.length<=100000)(e:Ac xs){c:Nat}(a:Bl rs xs c):∀i∈exprL rs xs,i<rs.length:=by
 rw[Nf b d e a];exact SX (Nat.le_refl _)
theorem ez(B:0<sizeOfK (ss.length:Int))(o:Dh 1048576 L)(C:L.length<=100000)(z:∀x∈L,AR (ss.length:Int) x.1=true)(ht:∀x∈L,JA ss m x)(w:∀b,b<ss.length->(ss.getD b ByteArray.empty).size=m)
  (y:(Ci (vecsC L)).length=ss.length) {b:Nat} (j:b<ss.length):blockC (ss.length:Int) L b=ss.getD b ByteArray.empty:=by
 have a:((b:Nat):Int)<(ss.length:Int):=by omega
 have s:val (unitL (ss.length:Int) (b:Int))=2^b:=Ky (Ff a) (IG B a);have p:(unitL (ss.length:Int) (b:Int)).length<=1048576:=by rw[Jm a];have:=DL (ss.length:Int);omega
 have g:Ech.Sp ((vecsC (CI L)).map val) (val (unitL (ss.length:Int) (b:Int))):=by
  rw[Oa,Mk o,s]
  have r:∀v∈vecsC L,AR (ss.length:Int) v=true:=fun v q=>by
   obtain⟨x,A,rfl⟩:=List.mem_map.1 q;exact z x A
  exact(Oj o r).2 (by rw[Int.toNat_natCast];exact y) b (by rw[Int.toNat_natCast];exact j)
 have d:=o.kept;have f:(vecsC (CI L)).length<=100000:=by
  rw[Iw,QW];have:=Gj (vecsC L) L.length;omega
 obtain⟨c,k⟩:=SW d g;have h:firstI (reduceL (broughtL (vecsC (CI L))) (unitL (ss.length:Int) (b:Int)))<0:=(Lg d (Ff a) p).2 g;have n:exL (vecsC (CI L)) (unitL (ss.length:Int) (b:Int))=exprL (vecsC (CI L)) (unitL (ss.length:Int) (b:Int)):=by unfold exL;rw[if_pos h]
 unfold blockC;rw[n];have l:=Nf d f (Ff a) k;refine mE (fun i u=>?_) (TL d _).1 ?_ j (w b j)
 ·have e:=VS _ d f (Ff a) k i u
  rw[Iw]at e;rw[List.getD_eq_getElem?_getD,List.getElem?_eq_getElem e];exact ht _ (Uj (List.getElem_mem e))
 ·rw[l,<-s]
  exact k.sum d
theorem fU(l:0<sizeOfK (ss.length:Int))(c:Dh 1048576 L)(o:L.length<=100000)(k:∀x∈L,AR (ss.length:Int) x.1=true)(ht:∀x∈L,JA ss m x)(n:∀b,b<ss.length->(ss.getD b ByteArray.empty).size=m):
  Ef (ss.length:Int) L=decide ((Ci (vecsC L)).length=ss.length)/\((Ci (vecsC L)).length=ss.length->solveC (ss.length:Int) L=ss)/\((Ci (vecsC L)).length≠ss.length->solveC (ss.length:Int) L=[]):=by
 have h:∀v∈vecsC L,AR (ss.length:Int) v=true:=fun v g=>by
  obtain⟨x,p,rfl⟩:=List.mem_map.1 g;exact k x p
 have f:=(Oj c h).1;rw[Int.toNat_natCast]at f;have d:(keepL (vecsC L) L.length).length=(Ci (vecsC L)).length:=by rw[<-Iw];exact LF c
 have a:Ef (ss.length:Int) L=decide ((Ci (vecsC L)).length=ss.length):=by
  unfold Ef;rw[decide_eq_true l,Bool.true_and,d];exact decide_eq_decide.2 (by omega)
 refine⟨a,fun e=>?_,fun e=>?_⟩
 ·unfold solveC
  rw[a,if_pos (decide_eq_true e),Int.toNat_natCast];refine List.ext_getElem (by simp) fun i q j=>?_;rw[List.getElem_map,List.getElem_range,ez l c o k ht n e j,List.getD_eq_getElem?_getD,List.getElem?_eq_getElem j];rfl
 ·unfold solveC
  rw[a,if_neg (by simp[e])]
def Dt(ss:List ByteArray)(k:Nat):List ByteArray:=ss.take k++List.replicate (ss.length-k) ByteArray.empty
theorem SA(ss:List ByteArray):Dt ss 0=List.replicate ss.length ByteArray.empty:=by simp[Dt]
theorem T0(ss:List ByteArray):Dt ss ss.length=ss:=by simp[Dt]
theorem Q3(ss:List ByteArray)(k:Nat)(a:k<=ss.length):(Dt ss k).length=ss.length:=by simp[Dt];omega
theorem Sz(ss:List ByteArray)(k:Nat)(a:k<ss.length):(Dt ss k).set k (ss.getD k ByteArray.empty)=Dt ss (k+1):=by
 unfold Dt;have b:(ss.take k).length=k:=by simp;omega
 rw[List.set_append_right _ _ (by omega),b,Nat.sub_self,List.take_succ_eq_append_getElem a,List.append_assoc,show ss.length-k=(ss.length-(k+1))+1 by omega,List.replicate_succ,List.set_cons_zero];simp[List.getD_eq_getElem?_getD,List.getElem?_eq_getElem a]
def DP(us:List RV):List ByteArray:=us.map fun r=>r.s
theorem I6(us:List RV):(DP us).length=us.length:=by simp[DP]
theorem iO(us:List RV)(k:Nat)(a:k<us.length):(DP us).getD k ByteArray.empty=(us.getD k .dflt).s:=by
 unfold DP;rw[List.getD_eq_getElem?_getD,List.getElem?_map,List.getElem?_eq_getElem a,List.getD_eq_getElem?_getD,List.getElem?_eq_getElem a];rfl
theorem dU{us:List RV}(h:Af us):shorts (DP us):=fun s c=>by
 obtain⟨r,b,rfl⟩:=List.mem_map.1 c;obtain⟨i,a,rfl⟩:=List.mem_iff_getElem.1 b;have:=(h i).2;rw[List.getD_eq_getElem?_getD,List.getElem?_eq_getElem a]at this;simp only[Option.getD_some]at this;omega
theorem TJ{a:List RV}(h:Af a)(ps:List Nat):Af (atR a ps):=fun i=>by
 by_cases b:i<ps.length
 ·rw[VH a ps i b];exact h _
 ·rw[List.getD_eq_getElem?_getD,List.getElem?_eq_none (by rw[GN];omega)]
  exact Lu 0
theorem nR(a:Option Addr)(n c:Nat)(o:List RV)(X:Option Addr)(np cp:Nat)(ps:List Nat)(w:World)(h:Ak w a n o)(hr:Ae w o)(hs:Af o)(hp:IntsAt w X np ps)(hl:∀i∈ps,i<n)(hn:n<=1048576)(l:np<=1048576):
  Calls Tryz.prog 242 #[.slice a n c,.slice X np cp] w fun e w'=>e=.returned (.string (st (CD (DP (atR o ps)))))/\Below w.heap.size w w':=by
 obtain rfl:=hp.1;have aj:=NK ps.length l;have hM:=J2 w ps.length l (Dt (DP (atR o ps)) 0) (by rw[SA,I6,GN]);have j:Below w.heap.size w (w.alloc (.cells (madeCells #[.string ByteArray.empty] ps.length) 9)):=(Below.refl _ _).alloc (Nat.le_refl _) _;have P:(w.alloc (.cells (madeCells #[.string ByteArray.empty] ps.length) 9)).heap.size=w.heap.size+1:=Bb _ _;have B:=Ab (WR a n c o X ps.length cp ps _ (h.below j) (hp.below j) hl hn l);have I:Hid ((atR o ps).length=ps.length):=Ab (GN o ps);have T:=Ab (dU (TJ hs ps));have HM:=Ab hM;have D:=Ab j;have W:=Ab P;clear h hp hl hr hs hM j P;generalize atR o ps=us at*;go_enter Tryz.func242,Tryz.ntmps242;go_wp2_with fail;refine(Aa B).mono ?_;rintro e w1 ⟨v1,rfl,f,b⟩;obtain⟨a1,c1,rfl⟩:=f.shape;rw[Aa W]at f;rw[Aa I]at f⊢;have H:=Ab f;have G:=Ab ((Aa HM).below b);have C:=Ab (Ad (Aa D) b);clear f b B HM D;go_wp2;go_loopw [15] (fun i wr=> ∃k:Nat,k<=ps.length/\i=.int .i64 k/\Hid (Ap wr w.heap.size (.slice (some ⟨w.heap.size,0,none⟩) ps.length ps.length) (Dt (DP us) k))/\Hid (Al wr (w.heap.size+1) (.slice a1 ps.length c1) us)/\Hid (Below w.heap.size w wr)) (fun i _=>ps.length-(intOf i).toNat)
 case atStart=>exact⟨0,Nat.zero_le _,rfl,G,H,C⟩
 case round=>
  obtain⟨k,hk,rfl,E,R,Q⟩:=hrel;clear G H C;have d:=Aa I;by_cases ai:k<ps.length
  ·have K:=Aa R
   obtain⟨g,rfl⟩:∃g,a1=some ⟨g,0,none⟩:=by
    rcases K.2 with⟨e,h0⟩|⟨g,cap,ae,e,_⟩
    ·omega
    ·simp only[Value.slice.injEq]at e;exact⟨g,e.1⟩
   have x:=He us k (by omega);have af:=K.cellAt x.1;have ag:=K.cellAt x.2;have ad:(k:Int)<(ps.length:Int):=by omega
   have Z:=Sz (DP us) k (by rw[I6];omega);rw[iO us k (by omega)]at Z;generalize us.getD k .dflt=r at*;have b:Below wr.heap.size wr (wr.alloc (.cells #[.slice r.a r.n r.c,.string r.s] 57)):=(Below.refl _ _).alloc (Nat.le_refl _) _;have Y:=(Aa E).below b;have ab:(Dt (DP us) k).length=ps.length:=by rw[Q3 _ _ (by rw[I6];omega),I6,d]
   obtain⟨g2,ac,A,_,_,q,u⟩:=Y.at (by omega);simp only[Value.slice.injEq,Option.some.injEq,Addr.mk.injEq,and_true]at A;obtain⟨rfl, -, -⟩:=A;have aa:=q k (by omega);have ah:=u k;have y:=Y.stored k r.s;rw[Z]at y;have J:=(Ad (Aa Q) b).setCell (p:=⟨w.heap.size,k,none⟩) (Nat.le_refl _) (.string r.s);have N:=(K.below b).keptB (Bx _ w.heap.size k (.string r.s)) (by omega);obtain⟨ak,al⟩:=Gl wr (.slice r.a r.n r.c) (.string r.s);have HS:=Ab y;have v:=Ab J;have S:=Ab N;clear x Y y J b Z E Q R K N ab q u;generalize (Dt (DP us) k).getD k ByteArray.empty=z at*;go_wp2;go_roundw
   case rel=>exact⟨k+1,by omega,by go_num,HS,S,v⟩
   case measure=>simp[intOf];omega
  ·obtain rfl:k=ps.length:=by omega
   rw[show Dt (DP us) ps.length=DP us by rw[<-d,<-I6 us];exact T0 _]at E;obtain⟨a2,c2,A,hT⟩:=(Aa E).texts;rw[I6,d]at A hT;simp only[Value.slice.injEq]at A;obtain⟨rfl, -,rfl⟩:=A;have V:=Ab (WA _ ps.length ps.length (DP us) wr hT (Aa T) l);clear hT E R;go_wp2_with (go_at_call 289;refine(Aa V).mono ?_;rintro e w2 ⟨rfl,O⟩;have v:=Ab (Ad (Aa Q) O);clear O);go_ret;exact⟨rfl,Aa v⟩
theorem eY(a:Option Addr)(k c:Nat)(rs:List (List Nat))(o:Option Addr)(m u:Nat)(xs:List Nat)(w:World)(ht:Tab w)(h:VecsAt w a k rs)(j:Az 1048576 rs)(v:RowAt w o m xs)(C:k<=100000)(B:m<=1048576)
  (i:¬firstI (reduceL (broughtL rs) xs)<0):
  Calls Tryz.prog 240 #[.slice a k c,.slice o m u] w fun e w'=>e=.returned (.tuple #[.slice none 0 0,.bool false])/\Below w.heap.size w w':=by
 have s:=Ab (Ki a k c rs w ht h j C);have q:=Fe j;have A:=JN j;have D:=h.1;have n:=Ab (fun(w1:World) (p:Option Addr) (c1:Nat) (d:Below w.heap.size w w1) (E:VecsAt w1 p (broughtL rs).length (broughtL rs))=>PE p _ c1 (broughtL rs) o m u xs w1 (ht.below d) E q (v.below d) (by omega) B);rw[decide_eq_false i]at n;clear h v i j;generalize keepL rs rs.length=H at*;generalize broughtL rs=G at*;go_enter Tryz.func240,Tryz.ntmps240;go_wp2_with fail;refine(Aa s).mono ?_;rintro e w1 ⟨J,I,vs,rfl,x,y,d⟩;obtain⟨p,c1,rfl,_⟩:=x.ints;obtain⟨z,c2,rfl,b⟩:=y.vecs;have f:=Ab (Aa n w1 z c2 d b);have r:=Ab d;clear x y d s n b;go_wp2_with fail;refine(Aa f).mono ?_;rintro e w2 ⟨rfl,g⟩;have l:=Ab (Ad (Aa r) g);clear g r f;go_wp2;go_ret2;exact⟨rfl,Aa l⟩
theorem dp(a:Option Addr)(n0 c:Nat)(rs:List (List Nat))(a':Option Addr)(m c':Nat)(xs:List Nat)(w:World)(ht:Tab w)(h:VecsAt w a n0 rs)(hf:Az 1048576 rs)(h':RowAt w a' m xs)(hn:n0<=100000)(hm:m<=1048576)
  (a3:firstI (reduceL (broughtL rs) xs)<0):
  Calls Tryz.prog 240 #[.slice a n0 c,.slice a' m c'] w fun e w'=> ∃v,e=.returned (.tuple #[v,.bool true])/\AA w' w.heap.size v (exprL rs xs)/\Below w.heap.size w w':=by
 have HX:=Ab (Ki a n0 c rs w ht h hf hn);have ch:=Fe hf;have cy:=JN hf;obtain rfl:n0=rs.length:=h.1.symm;have ab:=bA rs;have a0:=cP hf;have aj:=Ab (bV hf);have c3:=Gj rs rs.length;have X:=Ab (Js rs rs.length);have HY:=Ab (fun(w1:World) (a1:Option Addr) (c1:Nat) (hb:Below w.heap.size w w1) (hv:VecsAt w1 a1 (broughtL rs).length (broughtL rs))=>PE a1 _ c1 (broughtL rs) a' m c' xs w1 (ht.below hb) hv ch (h'.below hb) (by omega) hm);rw[decide_eq_true a3]at HY;have HZ:=Ab (fun(w1:World) (a1:Option Addr) (c1:Nat) (hb:Below w.heap.size w w1) (hv:VecsAt w1 a1 (broughtL rs).length (broughtL rs))=>el a1 _ c1 (broughtL rs) w1 (ht.below hb) hv ch (by omega) a0)
 have HE:Hid (exprL rs xs=chosenL (keepL rs rs.length) (fun i=>Ah (reduceL (broughtL ((BG rs (keepL rs rs.length) (C4 (broughtL rs)) (sizeL (keepL rs rs.length).length) (keepL rs rs.length).length).take (keepL rs rs.length).length))
  (Cf (By (sizeL (keepL rs rs.length).length)) xs (C4 (broughtL rs)) (keepL rs rs.length).length)) ((keepL rs rs.length).length+i)) (keepL rs rs.length).length):=rfl
 generalize exprL rs xs=EX at*;clear a3 a0;have bm:=Hk (broughtL rs);generalize C4 (broughtL rs)=fs at*;generalize broughtL rs=bb at*;generalize keepL rs rs.length=f at*;rw[ab]at bm;have ba:=Ab bm;obtain⟨n,ap⟩:∃n,f.length=n:=⟨_,rfl⟩;have c5:=Wq n;have aq:=Wp n (by omega);obtain⟨s,au⟩:∃s,sizeL n=s:=⟨_,rfl⟩;have c9:((2:Int)*(n:Int)+64-1)/64=(s:Int):=by rw[<-au];unfold sizeL;omega
 rw[au]at c5 aq;rw[ap,au]at HE;rw[ap]at ab ba c3;rw[ab]at HY HZ;have o:=Ab ap;have bv:=Ab ab;clear au bm ap ab cy;go_enter Tryz.func240,Tryz.ntmps240;go_wp2_with fail;refine(Aa HX).mono ?_;rintro e w1 ⟨vk,vb,vs,rfl,hI,hV,hb⟩;obtain⟨a1,c1,rfl, -⟩:=hI.ints;obtain⟨a2,c2,rfl,Q⟩:=hV.vecs;rw[Aa bv]at Q;rw[Aa bv];rw[Aa o];have b8:=Ab (Aa HY w1 a2 c2 hb Q);have HB:=Ab hb;have bz:=Ab hI;have b7:=Ab Q;clear hI hV hb HX HY Q;go_wp2_with fail;refine(Aa b8).mono ?_;rintro e w2 ⟨rfl,am⟩;have a4:=Ab (Ad (Aa HB) am);have b0:=Ab ((Aa bz).below am);have b9:=Ab (Aa HZ w2 a2 c2 (Aa a4) ((Aa b7).below am));clear am HB b8 bz b7 HZ;go_wp2_with fail;refine(Aa b9).mono ?_;rintro e w3 ⟨vf,rfl,cb,bh⟩;obtain⟨af,cf,rfl,bn⟩:=cb.ints;rw[Aa ba]at bn;rw[Aa ba];have S:=Ab bn;have ag:=Ab (Ad (Aa a4) bh);have b1:=Ab ((Aa b0).below bh);clear bh a4 b0 b9 cb bn;have bc:=Xz (n+1) s w3 (by omega) aq;rw[show((n+1:Nat):Int)=(n:Int)+1 by simp]at bc;have bw:=Ab bc;have cj:IntsAt w3 a1 n f:=by
  obtain⟨_,_,e,hi⟩:=(Aa b1).ints;rw[Aa o]at e hi;simp only[Value.slice.injEq,true_and]at e;rw[e.1];exact hi
 have ak:=Ab cj;clear bc cj b1;go_wp2_with fail;refine(Aa bw).mono ?_;rintro e w4 ⟨rfl,T,bi⟩;have cl:=(Aa ag).size;obtain⟨P,al⟩:∃P,w3.heap.size=P:=⟨_,rfl⟩;rw[al]at T bi cl;rw[al];obtain⟨R,bg⟩:∃R,P+1=R:=⟨_,rfl⟩;rw[bg]at T;rw[bg];have E:=Ab al;rw[show List.replicate (n+1) (By s)=BG rs f fs s 0 by rw[gT,Aa o]]at T;have H0:=Ab (And.intro T bi);clear T bi al bg bw c9;go_wp2;go_loopw [38] (fun i wr=> ∃k:Nat,k<=n/\i=.int .i64 k/\Hid (AG wr P P R s (n+1) (BG rs f fs s k)/\Below P w3 wr)) (fun i _=>n-(intOf i).toNat)
 case atStart=>exact⟨0,Nat.zero_le _,rfl,H0⟩
 case round=>
  obtain⟨k,hk,rfl,HS⟩:=hrel;obtain⟨T,hB⟩:=Aa HS;clear H0 HS;have H:Below w3.heap.size w3 wr:=by rw[Aa E];exact hB
  have bf:P<=wr.heap.size:=by have:=hB.size;rw[Aa E]at this;exact this
  have bo:(BG rs f fs s k).length=n+1:=by rw[NT,Aa o]
  by_cases ao:k<n
  ·have r:k<n+1:=by omega
   obtain⟨bk,ok,rfl,bl⟩:=(Aa ak).at ao;have ct:=(H.cell (World.block_lt_of_cell? w3 _ (bl k ao))).trans (bl k ao);have az:f.getD k 0<rs.length:=by
    refine Aa X _ ?_;rw[List.getD_eq_getElem?_getD,List.getElem?_eq_getElem (show k<f.length by rw[Aa o];exact ao)];exact List.getElem_mem _
   have cd:(BG rs f fs s k).set k (Bw (Cf (By s) (rs.getD (f.getD k 0) []) fs n) (n+k) true)=BG rs f fs s (k+1):=by
    have:=jg rs f fs s k (by rw[Aa o];omega);unfold IH at this;rw[Aa o]at this;exact this
   have b3:=Ab cd;have ae:(BG rs f fs s k).getD k []=By s:=by rw[NS _ _ _ _ _ _ (by rw[Aa o];omega),if_neg (by omega)]
   generalize f.getD k 0=pl at*;obtain⟨b,off,rfl,hc⟩:=(h.below (Aa ag)).at az;obtain⟨ai,ci,z,J⟩:=hc pl az;have cz:=(H.cell (World.block_lt_of_cell? w3 _ z)).trans z;have g:=(T.row r).2.1;have Z:Below w3.heap.size w3 wr.drew:=H.drew;have ca:Below P w3 wr.drew:=hB.drew;have ck:=(hf.getD pl).2
   have u:=Vp P P R s (n+1) k (BG rs f fs s k) ai (rs.getD pl []).length ci (rs.getD pl []) af n cf fs wr.drew (T.below ((Below.refl _ _).drew)) r (J.below Z)
    (J.lt.imp id fun hl ad e e2=>by have h1:=hl ad e;have h2:=Option.some.inj e2;rw[Aa E]at h1;omega) ((Aa S).below Z)
    ((Aa S).lt.imp id fun hl ad e e2=>by have h1:=hl ad e;have h2:=Option.some.inj e2;rw[Aa E]at h1;omega) (Aa aj) (by omega) aq ck
   rw[ae]at u;generalize rs.getD pl []=y at*;obtain⟨po,I⟩:∃po,k*s=po:=⟨_,rfl⟩;rw[I]at u g;have Y:=Ab I;have G:=Ab u;have b2:=Ab bo;have ah:=Ab ca;have da:(pl:Int)<(rs.length:Int):=by omega
   have db:(k:Int)<(n:Int)+1:=by omega
   clear u T hc bl z J cd ae hB H Z h h' S ak HE aj X bo I ca;go_wp2_with fail;refine wp_region_any (by kernel_rfl) ?_;change wpAny _ _ _ _ _ _ _ (World.drew _);refine wpAny_take (i:=0) (v:=?_) rfl (by kernel_rfl) (by kernel_rfl) (by kernel_rfl) (fun _ _ _ h=>h) (Or.inl ⟨by rfl,?f0⟩) ?_
   case f0=>(intro w;go_simp;try with_reducible rfl)
   refine wpAny_take (i:=1) (v:=?_) rfl (by kernel_rfl) (by kernel_rfl) (by kernel_rfl) (fun _ _ _ h=>h) (Or.inl ⟨by rfl,?f1⟩) ?_
   case f1=>(intro w;go_simp;try with_reducible rfl)
   refine wpAny_take (i:=2) (v:=?_) rfl (by kernel_rfl) (by kernel_rfl) (by kernel_rfl) (fun _ _ _ h=>h) (Or.inl ⟨by rfl,?f2⟩) ?_
   case f2=>(intro w;go_simp;try with_reducible rfl)
   refine wpAny_take (i:=4) (v:=?_) rfl (by kernel_rfl) (by kernel_rfl) (by kernel_rfl) (fun _ _ _ h=>h) (Or.inl ⟨by rfl,?f4⟩) ?_
   case f4=>(intro w;go_simp;try with_reducible rfl)
   refine wpAny_take (i:=5) (v:=?_) rfl (by kernel_rfl) (by kernel_rfl) (by kernel_rfl) (fun _ _ _ h=>h) (Or.inl ⟨by rfl,?f5⟩) ?_
   case f5=>(intro w;go_simp;try with_reducible rfl)
   refine wpAny_take (i:=6) (v:=?_) rfl (by kernel_rfl) (by kernel_rfl) (by kernel_rfl) (fun _ _ _ h=>h) (Or.inl ⟨by rfl,?f6⟩) ?_
   case f6=>(intro w;go_simp;try with_reducible rfl)
   refine wpAny_take (i:=8) (v:=?_) rfl (by kernel_rfl) (by kernel_rfl) (by kernel_rfl) (fun _ _ _ h=>h) (Or.inl ⟨by rfl,?f8⟩) ?_
   case f8=>(intro w;go_simp;try with_reducible rfl)
   refine wpAny_ready (rs:=[3,7]) (by kernel_rfl) (by simp) ?_;refine AllReady.cons rfl (fun K D=>?r1) (AllReady.cons rfl (fun K D=>?r2) AllReady.nil)
   case r1=>
    go_simp;refine D _ _ ?_;clear D K;refine wpAny_ready (rs:=[7]) (by kernel_rfl) (by simp) ?_;refine AllReady.cons rfl (fun K D=>?_) AllReady.nil;go_simp;refine D _ _ ?_;clear D K;refine wpAny_ready (rs:=[9]) (by kernel_rfl) (by simp) ?_;refine AllReady.cons rfl (fun K D=>?_) AllReady.nil;go_simp;refine(Aa G).mono ?_;rintro e w5 ⟨rfl,l,A⟩;have C:=(Aa ah).trans (CP A (show P<=wr.drew.heap.size from bf) (fun j hj=>by have:=Option.some.inj hj;omega));have d:=(l.row r).2.1;obtain⟨x,N,bu,O,B⟩:=Ns l r (Aa b2) (show n+k<64*s by omega);rw[Aa Y]at N O B d;have hX:=OJ P po s s (n+k) x w5 (by omega) (by omega) N bu O;rw[show((n+k:Nat):Int)=(n:Int)+(k:Int) by simp]at hX;have HX:=Ab hX;rw[Aa b3]at B;have HN:=Ab (And.intro B (C.setCell (p:=⟨P,po+(n+k)/64,none⟩) (by exact Nat.le_refl _) (.int .u64 ((setW x ((n+k)%64) true:Nat):Int))));clear hX N O B C l A G ah;refine D _ _ ?_;clear D K;refine wpAny_done (by kernel_rfl) ?_ _;go_wp2_with fail;refine(Aa HX).mono ?_;rintro e w6 ⟨rfl,hw⟩;rw[<-hw]at HN;clear hw HX d;go_wp2;go_roundw
    case rel=>exact⟨k+1,by omega,by go_num,HN⟩
    case measure=>simp[intOf];omega
   case r2=>
    go_simp;refine D _ _ ?_;clear D K;refine wpAny_ready (rs:=[3]) (by kernel_rfl) (by simp) ?_;refine AllReady.cons rfl (fun K D=>?_) AllReady.nil;go_simp;refine D _ _ ?_;clear D K;refine wpAny_ready (rs:=[9]) (by kernel_rfl) (by simp) ?_;refine AllReady.cons rfl (fun K D=>?_) AllReady.nil;go_simp;refine(Aa G).mono ?_;rintro e w5 ⟨rfl,l,A⟩;have C:=(Aa ah).trans (CP A (show P<=wr.drew.heap.size from bf) (fun j hj=>by have:=Option.some.inj hj;omega));have d:=(l.row r).2.1;obtain⟨x,N,bu,O,B⟩:=Ns l r (Aa b2) (show n+k<64*s by omega);rw[Aa Y]at N O B d;have hX:=OJ P po s s (n+k) x w5 (by omega) (by omega) N bu O;rw[show((n+k:Nat):Int)=(n:Int)+(k:Int) by simp]at hX;have HX:=Ab hX;rw[Aa b3]at B;have HN:=Ab (And.intro B (C.setCell (p:=⟨P,po+(n+k)/64,none⟩) (by exact Nat.le_refl _) (.int .u64 ((setW x ((n+k)%64) true:Nat):Int))));clear hX N O B C l A G ah;refine D _ _ ?_;clear D K;refine wpAny_done (by kernel_rfl) ?_ _;go_wp2_with fail;refine(Aa HX).mono ?_;rintro e w6 ⟨rfl,hw⟩;rw[<-hw]at HN;clear hw HX d;go_wp2;go_roundw
    case rel=>exact⟨k+1,by omega,by go_num,HN⟩
    case measure=>simp[intOf];omega
  ·obtain rfl:k=n:=by omega
   have r:k<k+1:=by omega
   have ae:(BG rs f fs s k).getD k []=By s:=by rw[NS _ _ _ _ _ _ (by rw[Aa o];omega),if_neg (by omega)]
   have g:=(T.row r).2.1;have h3:=h'.below (Aa ag)
   have u:=Vp P P R s (k+1) k (BG rs f fs s k) a' m c' xs af k cf fs wr T r (h3.below H)
    (h3.lt.imp id fun hl ad e e2=>by have h1:=hl ad e;have h2:=Option.some.inj e2;rw[Aa E]at h1;omega) ((Aa S).below H)
    ((Aa S).lt.imp id fun hl ad e e2=>by have h1:=hl ad e;have h2:=Option.some.inj e2;rw[Aa E]at h1;omega) (Aa aj) (by omega) aq hm
   rw[ae]at u;have cp:=IE (Hd s) xs fs k;have bq:(Cf (By s) xs fs k).length=s:=by rw[Hr,FW]
   have ac:=je rs f fs s k k (Cf (By s) xs fs k) cp bq 1048576 (by omega);have bp:((BG rs f fs s k).set k (Cf (By s) xs fs k)).take k=(BG rs f fs s k).take k:=by
    have:=R5 rs f fs s (Cf (By s) xs fs k);rw[Aa o]at this;exact this
   have co:((BG rs f fs s k).set k (Cf (By s) xs fs k)).getD k []=Cf (By s) xs fs k:=by rw[N4 _ _ _ _ (by omega),if_pos rfl]
   obtain⟨po,I⟩:∃po,k*s=po:=⟨_,rfl⟩;rw[bp]at ac;generalize Cf (By s) xs fs k=q at*;rw[I]at u g;have Y:=Ab I;have cx:=Ab bq;have G:=Ab u;have HB:=Ab hB;have a5:=Ab (((Aa ag).trans ((hB.mono cl))));have b4:=Ab bp;have cw:=Ab co;have de:=lZ R 0 (k+1) (k+1) k (by omega);clear u T ae H h h' h3 aj X S hB bp co bo I bq;go_wp2_with fail;refine(Aa G).mono ?_;rintro e w5 ⟨rfl,l,A⟩;have C:Below P w3 w5:=(Aa HB).trans (CP A bf (fun j hj=>by have:=Option.some.inj hj;omega));have aa:Below w.heap.size w w5:=(Aa a5).trans (CP A (Aa a5).size (fun j hj=>by have:=Option.some.inj hj;omega));have bt:=l.vecs (k:=k) (by omega);rw[Aa b4]at bt;have b6:=Ab (Ki (some ⟨R,0,none⟩) k (k+1) ((BG rs f fs s k).take k) w5 (ht.below aa) bt ac (by omega));have ay:IntsAt w5 a1 k f:=(Aa ak).below (by rw[Aa E];exact C);have aw:=Ab ay;have bx:=Ab l;have av:=Ab aa;have cm:=Fe ac;have dc:=JN ac;have dd:((BG rs f fs s k).take k).length<=k:=List.length_take_le _ _;generalize (BG rs f fs s k).take k=RL at*;generalize (BG rs f fs s k).set k q=RN at*;clear C aa bt ay l A G HB a5 ak b4 g ac;go_wp2_with fail;refine(Aa b6).mono ?_;rintro e w6 ⟨dh,dg,di,rfl,cc,ce,an⟩;obtain⟨a6,c6,rfl, -⟩:=cc.ints;obtain⟨a7,c7,rfl,cs⟩:=ce.vecs;obtain⟨bs,c0, -⟩:=((Aa bx).below an).row r;rw[Aa cw,Aa Y]at bs;rw[Aa Y]at c0;have V:=Ab (Ad (Aa av) an);have ax:=Ab ((Aa aw).below an);have b5:=Ab (Nt a7 _ c7 (broughtL RL) (some ⟨P,po,none⟩) s s q w6 (ht.below (Aa V)) cs cm bs (by omega) (by omega));have c4:=EW cm cp (by rw[Aa cx];omega:q.length<=1048576);clear cc ce cs bs an b6 bx aw av;generalize keepL RL RL.length=df at*;generalize broughtL RL=br at*;go_wp2_with fail;refine(Aa b5).mono ?_;rintro e w7 ⟨v7,rfl,cn,bj⟩;obtain⟨ar,cr,rfl,cq⟩:=cn.row;have a9:=Ab (fM a1 k c1 f ar _ cr (reduceL br q) w7 ((Aa ax).below bj) cq (by omega) c4.2);have W:=Ab (Ad (Aa V) bj);clear cn cq bj V ax b5;rw[<-Aa HE]at a9;generalize reduceL br q=rq at*;go_wp2_with fail;refine(Aa a9).mono ?_;rintro e w8 ⟨v8,rfl,bd,cg⟩;obtain⟨a8,c8,rfl, -⟩:=bd.ints
   have cv:=Ab (bd.mono (Aa W).size);have cu:=Ab (Ad (Aa W) cg);clear bd cg W a9;go_wp2;go_ret2;exact⟨_,rfl,Aa cv,Aa cu⟩
theorem dm(a:Option Addr)(n c:Nat)(rs:List (List Nat))(d:Option Addr)(m f:Nat)(xs:List Nat)(w:World)(ht:Tab w)(h:VecsAt w a n rs)(k:Az 1048576 rs)(j:RowAt w d m xs)(o:n<=100000)(l:m<=1048576):
  Calls Tryz.prog 240 #[.slice a n c,.slice d m f] w fun e w'=> ∃v,e=.returned (.tuple #[v,.bool (!Fm rs xs)])/\AA w' w.heap.size v (exL rs xs)/\Below w.heap.size w w':=by
 by_cases b:firstI (reduceL (broughtL rs) xs)<0
 ·have g:exL rs xs=exprL rs xs:=by unfold exL;rw[if_pos b]
  have i:Fm rs xs=false:=by unfold Fm;rw[decide_eq_true b];rfl
  rw[g,i];exact dp a n c rs d m f xs w ht h k j o l b
 ·have g:exL rs xs=[]:=by unfold exL;rw[if_neg b]
  have i:Fm rs xs=true:=by unfold Fm;rw[decide_eq_false b];rfl
  rw[g,i];refine(eY a n c rs d m f xs w ht h k j o l b).mono ?_;rintro e w' ⟨rfl,p⟩;exact⟨_,rfl,AA.nil _ _,p⟩
theorem SH(a:List RV)(i:Nat):(a.map core).getD i zC=core (a.getD i .dflt):=by
 rw[List.getD_eq_getElem?_getD,List.getElem?_map,List.getD_eq_getElem?_getD];cases a[i]? <;>rfl
theorem Nx(a:List RV):vecsL a=vecsC (a.map core):=by
 unfold vecsL vecsC;rw[List.map_map];rfl
theorem lw(a:List RV)(ps:List Nat):(atR a ps).map core=KW (a.map core) ps:=by
 unfold atR KW;rw[List.map_map];exact List.map_congr_left fun i _=>(SH a i).symm
theorem dW(a:List RV)(ps:List Nat):DP (atR a ps)=F2 (a.map core) ps:=by
 unfold DP atR F2;rw[List.map_map];refine List.map_congr_left fun i _=>?_;rw[SH];rfl
def EI(a:List RV):List RV:=atR a (keepL (vecsL a) a.length)
theorem R3(a:List RV):(EI a).map core=CI (a.map core):=by
 unfold EI CI;rw[lw,Nx,List.length_map]
theorem SM(a:List RV):(EI a).length=(keepL (vecsL a) a.length).length:=by simp[EI,atR]
theorem og(a:List RV):(EI a).length<=a.length:=by rw[SM];exact Gj _ _
theorem Wi(a:List RV):∀i∈keepL (vecsL a) a.length,i<a.length:=Js _ _
theorem AA.at'{w:World}{B:Nat}{a:Option Addr}{n c:Nat}{xs:List Nat}(h:AA w B (.slice a n c) xs):n=xs.length/\IntsAt w a n xs:=by
 obtain⟨d,f,e,b⟩:=h.ints;simp only[Value.slice.injEq]at e;obtain⟨rfl,rfl,rfl⟩:=e;exact⟨rfl,b⟩
theorem jx(a:Option Addr)(n c:Nat)(b:List RV)(w:World)(ht:Tab w)(h:Ak w a n b)(B:Ae w b)(I:Af b)(O:n<=100000):
  Calls Tryz.prog 239 #[.slice a n c] w fun e w'=> ∃i c1,e=.returned (.slice i (EI b).length c1)/\Al w' w.heap.size (.slice i (EI b).length c1) (EI b)/\Below w.heap.size w w':=by
 obtain rfl:=h.1;have G:=Ab (N5 a b.length c b w h (by omega));have E:=Ab (fun(w1:World) (i:Option Addr) (c1:Nat) (z:Below w.heap.size w w1) (P:VecsAt w1 i b.length (vecsL b))=>Uh i b.length c1 (vecsL b) w1 (ht.below z) P (Px B I) O);have D:=Ab (fun(w1:World) (H:Option Addr) (C N:Nat) (z:Below w.heap.size w w1) (hp:IntsAt w1 H C (keepL (vecsL b) b.length)) (A:C<=1048576)=>WR a b.length c b H C N (keepL (vecsL b) b.length) w1 (h.below z) hp (Wi b) (by omega) A);have x:=Ab (Gj (vecsL b) b.length);have J:=Ab B;clear h B I ht;go_enter Tryz.func239,Tryz.ntmps239;go_wp2_with fail;refine(Aa G).mono ?_;rintro e w1 ⟨Q,rfl,r,g⟩;obtain⟨i,c1,rfl,u⟩:=r.vecs ((Aa J).below g);have d:=Aa E w1 i c1 g u;rw[Kg]at d;have d:=Ab d;have l:=Ab g;clear r g u G E;go_wp2_with fail;refine(Aa d).mono ?_;rintro e w2 ⟨R,rfl,s,o⟩;obtain⟨K,c2,rfl,q⟩:=s.ints;have f:=Ab (Ad (Aa l) o);have k:=Ab (Aa D w2 K _ c2 (Aa f) q (by have:=Aa x;omega));clear s o q d D l;go_wp2_with fail;refine(Aa k).mono ?_;rintro e w3 ⟨v3,rfl,j,p⟩;obtain⟨a3,c3,rfl⟩:=j.shape;have y:=Ab (j.mono (Aa f).size);have v:=Ab (Ad (Aa f) p);clear j p k f;go_wp2;go_ret;exact⟨a3,c3,rfl,Aa y,Aa v⟩
theorem YU(rs:List (List Nat))(xs:List Nat):(∀i∈exL rs xs,i<rs.length)/\(exL rs xs).length<=rs.length:=by
 have a:=Gj rs rs.length;unfold exL;split
 ·unfold exprL
  exact⟨SX (Nat.le_refl _),Nat.le_trans (NE _ _ _) a⟩
 ·exact⟨(fun i b=>by cases b),Nat.zero_le _⟩
def MU(w w':World)(L:List (List Nat×ByteArray))(a:Option Addr)(b c1:Nat)(us:List RV):Prop:=
 Al w' w.heap.size (.slice a b c1) us/\Ae w' us/\Af us/\us.length<=1000/\us.map core=L/\Below w.heap.size w w'
theorem ey(K:Nat)(us:List RV)(b:Nat):st (CD (DP (atR (EI us) (exL (vecsL (EI us)) (unitL (K:Int) (b:Int))))))=blockC (K:Int) (us.map core) b:=by
 unfold blockC;rw[dW,R3,Nx,R3]
theorem aZ(k:Int)(a:Option Addr)(n c:Nat)(L:List (List Nat×ByteArray))(w:World)(ht:Tab w)
  (hw:∀w1,Below w.heap.size w w1->Calls Tryz.prog 210 #[.int .i64 k,.slice a n c] w1 fun e w'=> ∃T m1 c1 us,e=.returned (.slice T m1 c1)/\MU w1 w' L T m1 c1 us):
  Calls Tryz.prog 211 #[.agg #[.int .i64 k,.func (.func 210) #[] #[]],.slice a n c] w fun e w'=> ∃T m1 c1,e=.returned (.tuple #[.slice T m1 c1,.bool (Ef k L)])/\Ap w' w.heap.size (.slice T m1 c1) (solveC k L)/\Below w.heap.size w w':=by
 have Y:Below w.heap.size w (w.alloc (.cells #[.int .i64 k,.func (.func 210) #[] #[]] 311)):=(Below.refl _ _).alloc (Nat.le_refl _) _;have hx:A2 (w.alloc (.cells #[.int .i64 k,.func (.func 210) #[] #[]] 311)) w.heap.size (.int .i64 k) (.func (.func 210) #[] #[]):=by constructor<;>simp
 have aj:=Ab (fun w2 (d:Below (w.alloc (.cells #[.int .i64 k,.func (.func 210) #[] #[]] 311)).heap.size (w.alloc (.cells #[.int .i64 k,.func (.func 210) #[] #[]] 311)) w2)=>hx.below d);have I:=Ab Y;have HW:=Ab (hw _ Y);have HZ:=Ab (GL k);have ar:=Ab (fun(w1:World) (d:Below w.heap.size w w1)=>ht.below d);clear hw Y hx ht;by_cases hz:sizeOfK k=0
 ·have f:Ef k L=false:=by unfold Ef;rw[hz];rfl
  have g:solveC k L=[]:=by unfold solveC;rw[f];rfl
  rw[hz]at HZ;go_enter Tryz.func211,Tryz.ntmps211;go_wp2_with (go_at_call 177;refine(Aa HZ _).mono ?_;rintro e w' ⟨rfl,x⟩;obtain rfl:=x.symm;clear x);go_ret2;rw[f,g];exact⟨none,0,0,rfl,Ap.nil _ _,Aa I⟩
 have bl:=Ab (show 0<sizeOfK k by omega);obtain⟨bu,bp⟩:=(D8 (k:=k) (by omega)).2;obtain⟨K,rfl⟩:∃K:Nat,k=(K:Int):=⟨k.toNat,(Int.toNat_of_nonneg (by omega)).symm⟩;obtain⟨z,bd⟩:∃z,sizeOfK (K:Int)=z:=⟨_,rfl⟩;rw[bd]at HZ hz;have bt:((z:Int)==0)=false:=by rw[beq_eq_false_iff_ne];omega
 clear bd;go_enter Tryz.func211,Tryz.ntmps211;go_wp2_with fail;refine(Aa HZ _).mono ?_;rintro e w' ⟨rfl,x⟩;obtain rfl:=x.symm;clear x HZ;go_wp2_with fail;refine(Aa HW).mono ?_;rintro e w1 ⟨T,m1,c1,us,rfl,ad,u,ae,bw,hL,Z⟩;have W:=Ad (Aa I) Z;obtain⟨h,l⟩:=Aa aj w1 Z;have an:=Ab (jx T m1 c1 us w1 (Aa ar w1 W) (ad.at' u).1 u ae (by have:=(ad.at' u).2.1;omega));have Q:=Ab (fun(w2:World) (d:Below w1.heap.size w1 w2)=>(u.below d).atR (Wi us));have R:=Ab (TJ ae (keepL (vecsL us) us.length));have ap:=Ab (og us);have af:=Ab W;have C:=Ab (fun(w2:World) (d:Below w1.heap.size w1 w2)=>(A2.below ⟨h,l⟩ d:A2 w2 w.heap.size (.int .i64 (K:Int)) (.func (.func 210) #[] #[])));have H:Ef (K:Int) L=decide ((K:Int)<=((EI us).length:Int)):=by
  unfold Ef;rw[decide_eq_true (Aa bl),Bool.true_and,SM,Nx,hL,<-hL,List.length_map]
 have r:=Ab H;have au:=Ab (fun b=>ey K us b);rw[hL]at au;change Hid (∀(w2:World),Below w1.heap.size w1 w2->Ae w2 (EI us))at Q;change Hid (Af (EI us))at R;clear HW ad u ae hL Z W H aj I;generalize EI us=ks at*;go_wp2_with fail;refine(Aa an).mono ?_;rintro e w2 ⟨a2,c2,rfl,a7,A⟩;obtain⟨h,l⟩:=Aa C w2 A;have ac:=Aa Q w2 A;have S:=Ab (a7.at' ac).1;have P:=Ab ac;have J:=Ab (Ad (Aa af) A);have D:=Ab (fun(w3:World) (d:Below w2.heap.size w2 w3)=>(A2.below ⟨h,l⟩ d:A2 w3 w.heap.size (.int .i64 (K:Int)) (.func (.func 210) #[] #[])));clear an a7 ac A Q af C;by_cases bz:ks.length<K
 ·have f:Ef (K:Int) L=false:=by rw[Aa r,decide_eq_false_iff_not];omega
  have g:solveC (K:Int) L=[]:=by unfold solveC;rw[f];rfl
  have hd:decide ((ks.length:Int)<(K:Int))=true:=by rw[decide_eq_true_iff];omega
  go_wp2;go_ret2;rw[f,g];exact⟨none,0,0,rfl,Ap.nil _ _,Aa J⟩
 have f:Ef (K:Int) L=true:=by rw[Aa r,decide_eq_true_iff];omega
 have g:solveC (K:Int) L=(List.range K).map (blockC (K:Int) L):=by unfold solveC;rw[f,if_pos rfl,Int.toNat_natCast]
 have hd:decide ((ks.length:Int)<(K:Int))=false:=by rw[decide_eq_false_iff_not];omega
 have bx:ks.length<=1000:=by have:=Aa ap;omega
 have HV:=Ab (N5 a2 ks.length c2 ks w2 (Aa S) (by omega));clear r ap;go_wp2_with fail;refine(Aa HV).mono ?_;rintro e w3 ⟨v3,rfl,a8,o⟩;obtain⟨a3,c3,rfl,bc⟩:=a8.vecs ((Aa P).below o);obtain⟨h,l⟩:=Aa D w3 o;have bm:=Ab bc;have ao:=Ab ((Aa P).below o);have bh:=Ab ((Aa S).below o);have N:=Ab (Ad (Aa J) o);have bg:=Ab (Px (Aa ao) (Aa R));have ak:=Ab (fun(B:World) (d:Below w3.heap.size w3 B)=>(A2.below ⟨h,l⟩ d:A2 B w.heap.size (.int .i64 (K:Int)) (.func (.func 210) #[] #[])));have b0:=NK K (by omega);obtain⟨q,y⟩:∃q,q=(List.range K).map (blockC (K:Int) L):=⟨_,rfl⟩;have s:Hid (q.length=K):=Ab (by rw[y];simp);have bi:Hid (∀b,b<K->q.getD b ByteArray.empty=blockC (K:Int) L b):=Ab (fun b d=>by rw[y,List.getD_eq_getElem?_getD,List.getElem?_map,List.getElem?_range d];rfl);rw[<-y]at g;have r:=Ab f;have bj:=Ab g;clear f g;have HM:=Ab (J2 w3 K (by omega) (Dt q 0) (by rw[SA,Aa s]));have ai:Hid (Below w3.heap.size w3 (w3.alloc (.cells (madeCells #[.string ByteArray.empty] K) 9))):=Ab ((Below.refl _ _).alloc (Nat.le_refl _) _);clear HV a8 o bc P S J D y;go_wp2;go_loopw [35] (fun i wr=> ∃j:Nat,j<=K/\i=.int .i64 j/\Hid (Ap wr w3.heap.size (.slice (some ⟨w3.heap.size,0,none⟩) K K) (Dt q j))/\Hid (Below w3.heap.size w3 wr)) (fun i _=>K-(intOf i).toNat)
 case atStart=>exact⟨0,Nat.zero_le _,rfl,HM,ai⟩
 case round=>
  obtain⟨j,hj,rfl,HI,HB⟩:=hrel;clear HM ai h l;by_cases a6:j<K
  ·have V:=Aa HB
   obtain⟨h,l⟩:=Aa ak wr V;have G:(j:Int)<(K:Int):=by omega
   have HU:=Ab (Vb (K:Int) (j:Int) wr (by omega));have am:=Ab (fun(B:World) (a4:Option Addr) (m4 c4:Nat) (d:Below wr.heap.size wr B) (h4:RowAt B a4 m4 (unitL (K:Int) (j:Int))) (bq:m4<=1048576)=>dm a3 ks.length c3 (vecsL ks) a4 m4 c4 (unitL (K:Int) (j:Int)) B (Aa ar B (Ad (Aa N) (Ad V d))) ((Aa bm).below (Ad V d)) (Aa bg) h4 (by omega) bq);have ab:=YU (vecsL ks) (unitL (K:Int) (j:Int));rw[Kg]at ab;have O:=Ab (fun(w5:World) (a5:Option Addr) (m5 c5:Nat) (d:Below wr.heap.size wr w5) (h5:IntsAt w5 a5 m5 (exL (vecsL ks) (unitL (K:Int) (j:Int))))=>nR a2 ks.length c2 ks a5 m5 c5 _ w5 ((Aa bh).below (Ad V d)) ((Aa ao).below (Ad V d)) (Aa R) h5 ab.1 (by omega) (by have:=h5.1;omega));rw[Aa au j]at O;have br:(unitL (K:Int) (j:Int)).length<=1048576:=by rw[Jm G];have:=DL (K:Int);omega
   have hS:=Sz q j (by have:=Aa s;omega);rw[Aa bi j a6]at hS;have bo:(Dt q j).length=K:=by rw[Q3 _ _ (by have:=Aa s;omega),Aa s]
   have aq:=Ab (fun(w6:World) (d:Below wr.heap.size wr w6)=>by
    have hI:=(Aa HI).below d;obtain⟨g2,bs,e2,_,_,ay,az⟩:=hI.at (by omega);simp only[Value.slice.injEq,Option.some.injEq,Addr.mk.injEq,and_true]at e2;obtain⟨rfl, -, -⟩:=e2;have v:=hI.stored j (blockC (K:Int) L j);rw[hS]at v;exact And.intro (ay j (by omega)) (And.intro (az j) (And.intro v ((Ad V d).setCell (p:=⟨w3.heap.size,j,none⟩) (Nat.le_refl _) (.string (blockC (K:Int) L j))))))
   clear V ab hS bo HI;generalize (Dt q j).getD j ByteArray.empty=zz at*;generalize blockC (K:Int) L j=TX at*;generalize exL (vecsL ks) (unitL (K:Int) (j:Int))=PS at*;generalize unitL (K:Int) (j:Int)=UU at*;go_wp2_with fail;refine(Aa HU).mono ?_;rintro e B ⟨v4,rfl,a9,aa⟩;obtain⟨a4,c4,rfl,bb⟩:=a9.row;have E:=Ab (Aa am B a4 _ c4 aa bb br);have ag:=Ab aa;clear a9 aa bb HU am;go_wp2_with fail;refine(Aa E).mono ?_;rintro e w5 ⟨v5,rfl,ba,aw⟩;obtain⟨a5,c5,rfl,a0⟩:=ba.ints;have X:=Ad (Aa ag) aw;have al:=Ab (Aa O w5 a5 _ c5 X a0);have ah:=Ab X;clear ba aw a0 X E O ag;go_wp2_with fail;refine(Aa al).mono ?_;rintro e w6 ⟨rfl,ax⟩;obtain⟨bn,bv,v,av⟩:=Aa aq w6 (Ad (Aa ah) ax);have HS:=Ab v;have bf:=Ab av;clear ax v av aq al ah;go_wp2;go_roundw
   case rel=>exact⟨j+1,by omega,by go_num,HS,bf⟩
   case measure=>simp[intOf];omega
  ·obtain rfl:j=K:=by omega
   have G:¬(j:Int)<(j:Int):=by omega
   rw[show Dt q j=q by have:=T0 q;rwa[Aa s]at this]at HI;go_wp2;go_ret2;rw[Aa r,Aa bj];exact⟨_,_,_,rfl,(Aa HI).mono (Aa N).size,Ad (Aa N) (Aa HB)⟩
end Go.Proofs.YtfpfcnfmigaphaaGreatDoor
