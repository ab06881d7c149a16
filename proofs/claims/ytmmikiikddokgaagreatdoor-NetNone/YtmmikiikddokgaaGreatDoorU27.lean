/-
  Laws that the proof stands on.
-/
import Derived.Test.YtmmikiikddokgaaGreatDoorU26
namespace Go.Proofs.YtmmikiikddokgaaGreatDoor
open Go.RowKit Go.Sort
set_option linter.unusedVariables false
set_option linter.unusedSimpArgs false
set_option maxRecDepth 4000
set_option maxHeartbeats 8000000
variable {L:List (List Nat×ByteArray)}{ss:List ByteArray}{m:Nat}
theorem VR:∀(l:List Nat) (a n:Nat),l.Pairwise (· < ·)->(∀x∈l,a<=x/\x<n)->a<=n->l.length<=n-a/\(l.length=n-a->∀x,a<=x->x<n->x∈l)
 |[],a,n,_,_,_=>⟨Nat.zero_le _,fun h x d f=>by simp at h;omega⟩
 |y::l,a,n,hp,b,k=>by
  have d:=b y List.mem_cons_self;obtain⟨o,j⟩:=VR l (y+1) n (List.pairwise_cons.1 hp).2 (fun x c=>⟨(List.pairwise_cons.1 hp).1 x c,(b x (List.mem_cons_of_mem _ c)).2⟩) (by omega);refine⟨by rw[List.length_cons];omega,fun h x f g=>?_⟩;rw[List.length_cons]at h;have i:y=a:=by omega
  subst i;by_cases e:x=y
  ·rw[e];exact List.mem_cons_self
  ·exact List.mem_cons_of_mem _ (j (by omega) x (by omega) g)
theorem qv{B:List Nat}{k:Nat}(h:Ech.Red B)(p:∀b∈B,b<2^k):B.length<=k/\(B.length=k->∀i,i<k->2^i∈B):=by
 have hp:(B.map Ech.low).Pairwise (· < ·):=by
  rw[List.pairwise_map];exact h.2.imp fun h=>h.1
 have v:∀x∈B.map Ech.low,0<=x/\x<k:=fun x w=>by
  obtain⟨b,d,rfl⟩:=List.mem_map.1 w;exact⟨Nat.zero_le _,Ech.low_lt (h.1 b d) (p b d)⟩
 obtain⟨r,n⟩:=VR _ 0 k hp v (Nat.zero_le _);rw[List.length_map]at r n;refine⟨by omega,fun e i s=>?_⟩;obtain⟨b,a,f⟩:=List.mem_map.1 (n (by omega) i (Nat.zero_le _) s);suffices b=2^i by rw[<-this];exact a
 apply Nat.eq_of_testBit_eq;intro j;rw[Nat.testBit_two_pow];by_cases l:i=j
 ·rw[decide_eq_true l,<-l,<-f,Ech.low_bit (h.1 b a)]
 ·rw[decide_eq_false l]
  by_cases u:j<k
  ·obtain⟨c,o,g⟩:=List.mem_map.1 (n (by omega) j (Nat.zero_le _) u)
   have:=(h.two a o (fun q=>l (by rw[<-f,<-g,q]))).2;rwa[g]at this
  ·exact Nat.testBit_lt_two_pow (Nat.lt_of_lt_of_le (p b a) (Nat.pow_le_pow_right (by omega) (by omega)))
theorem aF{B:List Nat}{k x:Nat}(h:∀b∈B,b<2^k)(a:Ech.Sp B x):x<2^k:=
 Ech.Sp.ind (P:=fun x=>x<2^k) (Nat.two_pow_pos k) (fun b x c a=>Nat.xor_lt_two_pow (h b c) a) a
theorem nO{k:Int}{xs:List Nat}(b:Ac xs)(h:AU k xs=true):val xs<2^k.toNat:=by
 apply Nat.lt_pow_two_of_testBit;intro i c;rw[CW b];cases a:Ai xs i
 ·rfl
 ·have:=(F7 h).2.2 i a;omega
theorem Oe{M:Nat}{k:Int}{V:List (List Nat)}(f:AC M V)(n:∀v∈V,AU k v=true):(Ch V).length<=k.toNat/\((Ch V).length=k.toNat->∀i,i<k.toNat->Ech.Sp (V.map val) (2^i)):=by
 have c:=Ks f
 have d:∀b∈Ech.basis (V.map val),b<2^k.toNat:=fun b c=>by
  refine aF (B:=V.map val) (fun x o=>?_) ((Ech.sp_basis _ _).1 (.of_mem c));obtain⟨v,a,rfl⟩:=List.mem_map.1 o;exact nO (f v a).1 (n v a)
 obtain⟨h,j⟩:=qv (Ech.red_basis (V.map val)) d;have g:=congrArg List.length c;rw[List.length_map]at g;rw[g];exact⟨h,fun e i l=>(Ech.sp_basis _ _).1 (.of_mem (j e i l))⟩
def zC:List Nat×ByteArray:=([],ByteArray.empty)
def vecsC(L:List (List Nat×ByteArray)):List (List Nat):=L.map Prod.fst
def Lj(L:List (List Nat×ByteArray))(ps:List Nat):List (List Nat×ByteArray):=ps.map fun i=>L.getD i zC
def CD(L:List (List Nat×ByteArray)):List (List Nat×ByteArray):=Lj L (keepL (vecsC L) L.length)
def Gk(L:List (List Nat×ByteArray))(ps:List Nat):List ByteArray:=ps.map fun i=>(L.getD i zC).2
def blockC(k:Int)(L:List (List Nat×ByteArray))(b:Nat):ByteArray:=st (Cy (Gk (CD L) (exL (vecsC (CD L)) (unitL k (b:Int)))))
def Eb(k:Int)(L:List (List Nat×ByteArray)):Bool:=decide (0<sizeOfK k)&&decide (k<=((keepL (vecsC L) L.length).length:Int))
def solveC(k:Int)(L:List (List Nat×ByteArray)):List ByteArray:=if Eb k L=true then(List.range k.toNat).map (blockC k L)else []
theorem IW(L:List (List Nat×ByteArray)):(vecsC L).length=L.length:=by simp[vecsC]
theorem Uq(L:List (List Nat×ByteArray))(i:Nat):(vecsC L).getD i []=(L.getD i zC).1:=by
 unfold vecsC;rw[List.getD_eq_getElem?_getD,List.getElem?_map,List.getD_eq_getElem?_getD];cases L[i]? <;>rfl
theorem OL(L:List (List Nat×ByteArray)):vecsC (CD L)=GK (vecsC L):=by
 unfold CD Lj GK Er;rw[IW];unfold vecsC;rw[List.map_map];refine List.map_congr_left fun i _=>?_;show(L.getD i zC).1=_;exact(Uq L i).symm
theorem RO(L:List (List Nat×ByteArray)):(CD L).length=(keepL (vecsC L) L.length).length:=by simp[CD,Lj]
theorem VH{x:List Nat×ByteArray}(h:x∈CD L):x∈L:=by
 obtain⟨i,b,rfl⟩:=List.mem_map.1 h;have a:=JK (vecsC L) _ i b;rw[List.getD_eq_getElem?_getD,List.getElem?_eq_getElem a];exact List.getElem_mem a
def Dc(M:Nat)(L:List (List Nat×ByteArray)):Prop:=AC M (vecsC L)
theorem Dc.kept{M:Nat}(h:Dc M L):Dc M (CD L):=by
 unfold Dc;rw[OL];exact hU h _
theorem WG(f:Nat->Nat)(a b:List Nat):∀n,Cs f (xorL a b) n=Cs f a n^^^Cs f b n
 |0=>by simp[Cs]
 |n+1=>by
  unfold Cs;rw[UI,WG f a b n];cases Ai a n<;>cases Ai b n
  ·simp
  ·simp[Nat.xor_assoc]
  ·simp only[Bool.xor_false,if_true,Bool.false_eq_true,if_false]
   rw[Nat.xor_assoc,Nat.xor_comm (Cs f b n),<-Nat.xor_assoc]
  ·simp only[Bool.xor_self,if_true,Bool.false_eq_true,if_false]
   rw[Nat.xor_assoc,Nat.xor_comm (f n),Nat.xor_assoc,Nat.xor_self,Nat.xor_zero]
theorem WF(f:Nat->Nat):∀n,Cs f [] n=0
 |0=>rfl
 |n+1=>by
  unfold Cs;rw[EP [] n (by simp),WF f n];rfl
def JS(ss:List ByteArray)(m:Nat)(x:List Nat×ByteArray):Prop:=DJ ss x.1 x.2=true/\x.2.size=m
theorem V9{ss:List ByteArray}{m:Nat}{L:List (List Nat×ByteArray)}(j:Nat):∀(ps:List Nat) (a x:List Nat),(∀i∈ps,JS ss m (L.getD i zC))->a.getD j 0=Cs (fun b=>(tx (ss.getD b ByteArray.empty)).getD j 0) x ss.length->
  ((Gk L ps).foldl (fun a s=>xorL a (tx s)) a).getD j 0=Cs (fun b=>(tx (ss.getD b ByteArray.empty)).getD j 0) (ps.foldl (fun x i=>xorL x ((vecsC L).getD i [])) x) ss.length
 |[],a,x,_,h=>h
 |i::ps,a,x,hp,h=>by
  unfold Gk;rw[List.map_cons,List.foldl_cons,List.foldl_cons];refine V9 j ps _ _ (fun q c=>hp q (List.mem_cons_of_mem _ c)) ?_;rw[Du,WG,h,Uq,(Ki.1 (hp i List.mem_cons_self).1).1 j]
theorem V8{ss:List ByteArray}{m:Nat}{L:List (List Nat×ByteArray)}:∀(ps:List Nat) (a:List Nat),(∀i∈ps,JS ss m (L.getD i zC))->a.length=m\/(a.length<=m/\ps≠ [])->((Gk L ps).foldl (fun a s=>xorL a (tx s)) a).length=m
 |[],a,_,h=>by
  rcases h with h|h
  ·exact h
  ·exact absurd rfl h.2
 |i::ps,a,hp,h=>by
  unfold Gk;rw[List.map_cons,List.foldl_cons];refine V8 ps _ (fun q b=>hp q (List.mem_cons_of_mem _ b)) (.inl ?_);have:=(hp i List.mem_cons_self).2;rw[BT,AT,this];rcases h with h|h<;>omega
theorem nE{ps:List Nat}{b:Nat}(hp:∀i∈ps,JS ss m (L.getD i zC))(q:Ac (Eh (vecsC L) ps))(g:val (Eh (vecsC L) ps)=2^b)(o:b<ss.length)(p:(ss.getD b ByteArray.empty).size=m):
  st (Cy (Gk L ps))=ss.getD b ByteArray.empty:=by
 apply I9;rw[DB (iH _)];have c:ps≠ []:=by
  rintro rfl;have k:val (Eh (vecsC L) [])=0:=by simp[Eh,val]
  rw[k]at g;have:=Nat.two_pow_pos b;omega
 have a:(Cy (Gk L ps)).length=m:=V8 ps [] hp (.inr ⟨Nat.zero_le _,c⟩);refine Ed (by rw[a,AT,p]) fun j _=>?_;have l:=V9 (ss:=ss) (m:=m) (L:=L) j ps [] [] hp (by rw[WF];rfl)
 have n:∀i,Ai (Eh (vecsC L) ps) i=decide (i=b):=fun i=>by
  rw[<-CW q,g,Nat.testBit_two_pow];by_cases e:i=b
  ·simp[e]
  ·rw[decide_eq_false e,decide_eq_false (fun h=>e h.symm)]
 have d:=ME (f:=fun b=>(tx (ss.getD b ByteArray.empty)).getD j 0) n ss.length;rw[if_pos o]at d;exact l.trans d
theorem Wu{rs:List (List Nat)}(xs:List Nat)(b:AC 1048576 rs)(d:rs.length<=100000)(e:Ac xs){c:Nat}(a:Bq rs xs c):∀i∈exprL rs xs,i<rs.length:=by
 rw[NG b d e a];exact To (Nat.le_refl _)
theorem fA(B:0<sizeOfK (ss.length:Int))(o:Dc 1048576 L)(C:L.length<=100000)(z:∀x∈L,AU (ss.length:Int) x.1=true)(ht:∀x∈L,JS ss m x)(w:∀b,b<ss.length->(ss.getD b ByteArray.empty).size=m)
  (y:(Ch (vecsC L)).length=ss.length) {b:Nat} (j:b<ss.length):blockC (ss.length:Int) L b=ss.getD b ByteArray.empty:=by
 have a:((b:Nat):Int)<(ss.length:Int):=by omega
 have s:val (unitL (ss.length:Int) (b:Int))=2^b:=KZ (Fb a) (IY B a);have p:(unitL (ss.length:Int) (b:Int)).length<=1048576:=by rw[JA a];have:=DW (ss.length:Int);omega
 have g:Ech.Sp ((vecsC (CD L)).map val) (val (unitL (ss.length:Int) (b:Int))):=by
  rw[OL,Mu o,s]
  have r:∀v∈vecsC L,AU (ss.length:Int) v=true:=fun v q=>by
   obtain⟨x,A,rfl⟩:=List.mem_map.1 q;exact z x A
  exact(Oe o r).2 (by rw[Int.toNat_natCast];exact y) b (by rw[Int.toNat_natCast];exact j)
 have d:=o.kept;have f:(vecsC (CD L)).length<=100000:=by
  rw[IW,RO];have:=GA (vecsC L) L.length;omega
 obtain⟨c,k⟩:=Tn d g;have h:firstI (reduceL (broughtL (vecsC (CD L))) (unitL (ss.length:Int) (b:Int)))<0:=(LM d (Fb a) p).2 g;have n:exL (vecsC (CD L)) (unitL (ss.length:Int) (b:Int))=exprL (vecsC (CD L)) (unitL (ss.length:Int) (b:Int)):=by unfold exL;rw[if_pos h]
 unfold blockC;rw[n];have l:=NG d f (Fb a) k;refine nE (fun i u=>?_) (Ug d _).1 ?_ j (w b j)
 ·have e:=Wu _ d f (Fb a) k i u
  rw[IW]at e;rw[List.getD_eq_getElem?_getD,List.getElem?_eq_getElem e];exact ht _ (VH (List.getElem_mem e))
 ·rw[l,<-s]
  exact k.sum d
theorem iF(l:0<sizeOfK (ss.length:Int))(c:Dc 1048576 L)(o:L.length<=100000)(k:∀x∈L,AU (ss.length:Int) x.1=true)(ht:∀x∈L,JS ss m x)(n:∀b,b<ss.length->(ss.getD b ByteArray.empty).size=m):
  Eb (ss.length:Int) L=decide ((Ch (vecsC L)).length=ss.length)/\((Ch (vecsC L)).length=ss.length->solveC (ss.length:Int) L=ss)/\((Ch (vecsC L)).length≠ss.length->solveC (ss.length:Int) L=[]):=by
 have h:∀v∈vecsC L,AU (ss.length:Int) v=true:=fun v g=>by
  obtain⟨x,p,rfl⟩:=List.mem_map.1 g;exact k x p
 have f:=(Oe c h).1;rw[Int.toNat_natCast]at f;have d:(keepL (vecsC L) L.length).length=(Ch (vecsC L)).length:=by rw[<-IW];exact LQ c
 have a:Eb (ss.length:Int) L=decide ((Ch (vecsC L)).length=ss.length):=by
  unfold Eb;rw[decide_eq_true l,Bool.true_and,d];exact decide_eq_decide.2 (by omega)
 refine⟨a,fun e=>?_,fun e=>?_⟩
 ·unfold solveC
  rw[a,if_pos (decide_eq_true e),Int.toNat_natCast];refine List.ext_getElem (by simp) fun i q j=>?_;rw[List.getElem_map,List.getElem_range,fA l c o k ht n e j,List.getD_eq_getElem?_getD,List.getElem?_eq_getElem j];rfl
 ·unfold solveC
  rw[a,if_neg (by simp[e])]
def Dl(ss:List ByteArray)(k:Nat):List ByteArray:=ss.take k++List.replicate (ss.length-k) ByteArray.empty
theorem TS(ss:List ByteArray):Dl ss 0=List.replicate ss.length ByteArray.empty:=by simp[Dl]
theorem Vr(ss:List ByteArray):Dl ss ss.length=ss:=by simp[Dl]
theorem RY(ss:List ByteArray)(k:Nat)(a:k<=ss.length):(Dl ss k).length=ss.length:=by simp[Dl];omega
theorem TR(ss:List ByteArray)(k:Nat)(a:k<ss.length):(Dl ss k).set k (ss.getD k ByteArray.empty)=Dl ss (k+1):=by
 unfold Dl;have b:(ss.take k).length=k:=by simp;omega
 rw[List.set_append_right _ _ (by omega),b,Nat.sub_self,List.take_succ_eq_append_getElem a,List.append_assoc,show ss.length-k=(ss.length-(k+1))+1 by omega,List.replicate_succ,List.set_cons_zero];simp[List.getD_eq_getElem?_getD,List.getElem?_eq_getElem a]
def DL(us:List RV):List ByteArray:=us.map fun r=>r.s
theorem Jt(us:List RV):(DL us).length=us.length:=by simp[DL]
theorem gW(us:List RV)(k:Nat)(a:k<us.length):(DL us).getD k ByteArray.empty=(us.getD k .dflt).s:=by
 unfold DL;rw[List.getD_eq_getElem?_getD,List.getElem?_map,List.getElem?_eq_getElem a,List.getD_eq_getElem?_getD,List.getElem?_eq_getElem a];rfl
theorem ed{us:List RV}(h:Af us):shorts (DL us):=fun s c=>by
 obtain⟨r,b,rfl⟩:=List.mem_map.1 c;obtain⟨i,a,rfl⟩:=List.mem_iff_getElem.1 b;have:=(h i).2;rw[List.getD_eq_getElem?_getD,List.getElem?_eq_getElem a]at this;simp only[Option.getD_some]at this;omega
theorem Uf{a:List RV}(h:Af a)(ps:List Nat):Af (atR a ps):=fun i=>by
 by_cases b:i<ps.length
 ·rw[Wk a ps i b];exact h _
 ·rw[List.getD_eq_getElem?_getD,List.getElem?_eq_none (by rw[Hd];omega)]
  exact LY 0
theorem oe(a:Option Addr)(n c:Nat)(o:List RV)(X:Option Addr)(np cp:Nat)(ps:List Nat)(w:World)(h:Aj w a n o)(hr:Ae w o)(hs:Af o)(hp:IntsAt w X np ps)(hl:∀i∈ps,i<n)(hn:n<=1048576)(l:np<=1048576):
  Calls Tryz.prog 259 #[.slice a n c,.slice X np cp] w fun e w'=>e=.returned (.string (st (Cy (DL (atR o ps)))))/\Below w.heap.size w w':=by
 obtain rfl:=hp.1;have aj:=N2 ps.length l;have hM:=Ku w ps.length l (Dl (DL (atR o ps)) 0) (by rw[TS,Jt,Hd]);have j:Below w.heap.size w (w.alloc (.cells (madeCells #[.string ByteArray.empty] ps.length) 9)):=(Below.refl _ _).alloc (Nat.le_refl _) _;have P:(w.alloc (.cells (madeCells #[.string ByteArray.empty] ps.length) 9)).heap.size=w.heap.size+1:=Bc _ _;have B:=Ab (Xc a n c o X ps.length cp ps _ (h.below j) (hp.below j) hl hn l);have I:Hid ((atR o ps).length=ps.length):=Ab (Hd o ps);have T:=Ab (ed (Uf hs ps));have HM:=Ab hM;have D:=Ab j;have W:=Ab P;clear h hp hl hr hs hM j P;generalize atR o ps=us at*;go_enter Tryz.func259,Tryz.ntmps259;go_wp2_with fail;refine(Aa B).mono ?_;rintro e w1 ⟨v1,rfl,f,b⟩;obtain⟨a1,c1,rfl⟩:=f.shape;rw[Aa W]at f;rw[Aa I]at f⊢;have H:=Ab f;have G:=Ab ((Aa HM).below b);have C:=Ab (Ad (Aa D) b);clear f b B HM D;go_wp2;go_loopw [15] (fun i wr=> ∃k:Nat,k<=ps.length/\i=.int .i64 k/\Hid (Ar wr w.heap.size (.slice (some ⟨w.heap.size,0,none⟩) ps.length ps.length) (Dl (DL us) k))/\Hid (Ak wr (w.heap.size+1) (.slice a1 ps.length c1) us)/\Hid (Below w.heap.size w wr)) (fun i _=>ps.length-(intOf i).toNat)
 case atStart=>exact⟨0,Nat.zero_le _,rfl,G,H,C⟩
 case round=>
  obtain⟨k,hk,rfl,E,R,Q⟩:=hrel;clear G H C;have d:=Aa I;by_cases ai:k<ps.length
  ·have K:=Aa R
   obtain⟨g,rfl⟩:∃g,a1=some ⟨g,0,none⟩:=by
    rcases K.2 with⟨e,h0⟩|⟨g,cap,ae,e,_⟩
    ·omega
    ·simp only[Value.slice.injEq]at e;exact⟨g,e.1⟩
   have x:=Ib us k (by omega);have af:=K.cellAt x.1;have ag:=K.cellAt x.2;have ad:(k:Int)<(ps.length:Int):=by omega
   have Z:=TR (DL us) k (by rw[Jt];omega);rw[gW us k (by omega)]at Z;generalize us.getD k .dflt=r at*;have b:Below wr.heap.size wr (wr.alloc (.cells #[.slice r.a r.n r.c,.string r.s] 73)):=(Below.refl _ _).alloc (Nat.le_refl _) _;have Y:=(Aa E).below b;have ab:(Dl (DL us) k).length=ps.length:=by rw[RY _ _ (by rw[Jt];omega),Jt,d]
   obtain⟨g2,ac,A,_,_,q,u⟩:=Y.at (by omega);simp only[Value.slice.injEq,Option.some.injEq,Addr.mk.injEq,and_true]at A;obtain⟨rfl, -, -⟩:=A;have aa:=q k (by omega);have ah:=u k;have y:=Y.stored k r.s;rw[Z]at y;have J:=(Ad (Aa Q) b).setCell (p:=⟨w.heap.size,k,none⟩) (Nat.le_refl _) (.string r.s);have N:=(K.below b).keptB (BA _ w.heap.size k (.string r.s)) (by omega);obtain⟨ak,al⟩:=GH wr (.slice r.a r.n r.c) (.string r.s);have HS:=Ab y;have v:=Ab J;have S:=Ab N;clear x Y y J b Z E Q R K N ab q u;generalize (Dl (DL us) k).getD k ByteArray.empty=z at*;go_wp2;go_roundw
   case rel=>exact⟨k+1,by omega,by go_num,HS,S,v⟩
   case measure=>simp[intOf];omega
  ·obtain rfl:k=ps.length:=by omega
   rw[show Dl (DL us) ps.length=DL us by rw[<-d,<-Jt us];exact Vr _]at E;obtain⟨a2,c2,A,hT⟩:=(Aa E).texts;rw[Jt,d]at A hT;simp only[Value.slice.injEq]at A;obtain⟨rfl, -,rfl⟩:=A;have V:=Ab (WT _ ps.length ps.length (DL us) wr hT (Aa T) l);clear hT E R;go_wp2_with (go_at_call 291;refine(Aa V).mono ?_;rintro e w2 ⟨rfl,O⟩;have v:=Ab (Ad (Aa Q) O);clear O);go_ret;exact⟨rfl,Aa v⟩
theorem gJ(a:Option Addr)(k c:Nat)(rs:List (List Nat))(o:Option Addr)(m u:Nat)(xs:List Nat)(w:World)(ht:Tab w)(h:VecsAt w a k rs)(j:AC 1048576 rs)(v:RowAt w o m xs)(C:k<=100000)(B:m<=1048576)
  (i:¬firstI (reduceL (broughtL rs) xs)<0):
  Calls Tryz.prog 257 #[.slice a k c,.slice o m u] w fun e w'=>e=.returned (.tuple #[.slice none 0 0,.bool false])/\Below w.heap.size w w':=by
 have s:=Ab (KM a k c rs w ht h j C);have q:=Fa j;have A:=Kj j;have D:=h.1;have n:=Ab (fun(w1:World) (p:Option Addr) (c1:Nat) (d:Below w.heap.size w w1) (E:VecsAt w1 p (broughtL rs).length (broughtL rs))=>PZ p _ c1 (broughtL rs) o m u xs w1 (ht.below d) E q (v.below d) (by omega) B);rw[decide_eq_false i]at n;clear h v i j;generalize keepL rs rs.length=H at*;generalize broughtL rs=G at*;go_enter Tryz.func257,Tryz.ntmps257;go_wp2_with fail;refine(Aa s).mono ?_;rintro e w1 ⟨J,I,vs,rfl,x,y,d⟩;obtain⟨p,c1,rfl,_⟩:=x.ints;obtain⟨z,c2,rfl,b⟩:=y.vecs;have f:=Ab (Aa n w1 z c2 d b);have r:=Ab d;clear x y d s n b;go_wp2_with fail;refine(Aa f).mono ?_;rintro e w2 ⟨rfl,g⟩;have l:=Ab (Ad (Aa r) g);clear g r f;go_wp2;go_ret2;exact⟨rfl,Aa l⟩
theorem dz(a:Option Addr)(n0 c:Nat)(rs:List (List Nat))(a':Option Addr)(m c':Nat)(xs:List Nat)(w:World)(ht:Tab w)(h:VecsAt w a n0 rs)(hf:AC 1048576 rs)(h':RowAt w a' m xs)(hn:n0<=100000)(hm:m<=1048576)
  (a3:firstI (reduceL (broughtL rs) xs)<0):
  Calls Tryz.prog 257 #[.slice a n0 c,.slice a' m c'] w fun e w'=> ∃v,e=.returned (.tuple #[v,.bool true])/\AD w' w.heap.size v (exprL rs xs)/\Below w.heap.size w w':=by
 have HX:=Ab (KM a n0 c rs w ht h hf hn);have ch:=Fa hf;have cy:=Kj hf;obtain rfl:n0=rs.length:=h.1.symm;have ab:=cA rs;have a0:=dY hf;have aj:=Ab (dP hf);have c3:=GA rs rs.length;have X:=Ab (JK rs rs.length);have HY:=Ab (fun(w1:World) (a1:Option Addr) (c1:Nat) (hb:Below w.heap.size w w1) (hv:VecsAt w1 a1 (broughtL rs).length (broughtL rs))=>PZ a1 _ c1 (broughtL rs) a' m c' xs w1 (ht.below hb) hv ch (h'.below hb) (by omega) hm);rw[decide_eq_true a3]at HY;have HZ:=Ab (fun(w1:World) (a1:Option Addr) (c1:Nat) (hb:Below w.heap.size w w1) (hv:VecsAt w1 a1 (broughtL rs).length (broughtL rs))=>fR a1 _ c1 (broughtL rs) w1 (ht.below hb) hv ch (by omega) a0)
 have HE:Hid (exprL rs xs=chosenL (keepL rs rs.length) (fun i=>Ai (reduceL (broughtL ((BI rs (keepL rs rs.length) (C2 (broughtL rs)) (sizeL (keepL rs rs.length).length) (keepL rs rs.length).length).take (keepL rs rs.length).length))
  (Cc (BB (sizeL (keepL rs rs.length).length)) xs (C2 (broughtL rs)) (keepL rs rs.length).length)) ((keepL rs rs.length).length+i)) (keepL rs rs.length).length):=rfl
 generalize exprL rs xs=EX at*;clear a3 a0;have bm:=Ih (broughtL rs);generalize C2 (broughtL rs)=fs at*;generalize broughtL rs=bb at*;generalize keepL rs rs.length=f at*;rw[ab]at bm;have ba:=Ab bm;obtain⟨n,ap⟩:∃n,f.length=n:=⟨_,rfl⟩;have c5:=WX n;have aq:=WW n (by omega);obtain⟨s,au⟩:∃s,sizeL n=s:=⟨_,rfl⟩;have c9:((2:Int)*(n:Int)+64-1)/64=(s:Int):=by rw[<-au];unfold sizeL;omega
 rw[au]at c5 aq;rw[ap,au]at HE;rw[ap]at ab ba c3;rw[ab]at HY HZ;have o:=Ab ap;have bv:=Ab ab;clear au bm ap ab cy;go_enter Tryz.func257,Tryz.ntmps257;go_wp2_with fail;refine(Aa HX).mono ?_;rintro e w1 ⟨vk,vb,vs,rfl,hI,hV,hb⟩;obtain⟨a1,c1,rfl, -⟩:=hI.ints;obtain⟨a2,c2,rfl,Q⟩:=hV.vecs;rw[Aa bv]at Q;rw[Aa bv];rw[Aa o];have b8:=Ab (Aa HY w1 a2 c2 hb Q);have HB:=Ab hb;have bz:=Ab hI;have b7:=Ab Q;clear hI hV hb HX HY Q;go_wp2_with fail;refine(Aa b8).mono ?_;rintro e w2 ⟨rfl,am⟩;have a4:=Ab (Ad (Aa HB) am);have b0:=Ab ((Aa bz).below am);have b9:=Ab (Aa HZ w2 a2 c2 (Aa a4) ((Aa b7).below am));clear am HB b8 bz b7 HZ;go_wp2_with fail;refine(Aa b9).mono ?_;rintro e w3 ⟨vf,rfl,cb,bh⟩;obtain⟨af,cf,rfl,bn⟩:=cb.ints;rw[Aa ba]at bn;rw[Aa ba];have S:=Ab bn;have ag:=Ab (Ad (Aa a4) bh);have b1:=Ab ((Aa b0).below bh);clear bh a4 b0 b9 cb bn;have bc:=Xs (n+1) s w3 (by omega) aq;rw[show((n+1:Nat):Int)=(n:Int)+1 by simp]at bc;have bw:=Ab bc;have cj:IntsAt w3 a1 n f:=by
  obtain⟨_,_,e,hi⟩:=(Aa b1).ints;rw[Aa o]at e hi;simp only[Value.slice.injEq,true_and]at e;rw[e.1];exact hi
 have ak:=Ab cj;clear bc cj b1;go_wp2_with fail;refine(Aa bw).mono ?_;rintro e w4 ⟨rfl,T,bi⟩;have cl:=(Aa ag).size;obtain⟨P,al⟩:∃P,w3.heap.size=P:=⟨_,rfl⟩;rw[al]at T bi cl;rw[al];obtain⟨R,bg⟩:∃R,P+1=R:=⟨_,rfl⟩;rw[bg]at T;rw[bg];have E:=Ab al;rw[show List.replicate (n+1) (BB s)=BI rs f fs s 0 by rw[fK,Aa o]]at T;have H0:=Ab (And.intro T bi);clear T bi al bg bw c9;go_wp2;go_loopw [38] (fun i wr=> ∃k:Nat,k<=n/\i=.int .i64 k/\Hid (AH wr P P R s (n+1) (BI rs f fs s k)/\Below P w3 wr)) (fun i _=>n-(intOf i).toNat)
 case atStart=>exact⟨0,Nat.zero_le _,rfl,H0⟩
 case round=>
  obtain⟨k,hk,rfl,HS⟩:=hrel;obtain⟨T,hB⟩:=Aa HS;clear H0 HS;have H:Below w3.heap.size w3 wr:=by rw[Aa E];exact hB
  have bf:P<=wr.heap.size:=by have:=hB.size;rw[Aa E]at this;exact this
  have bo:(BI rs f fs s k).length=n+1:=by rw[Ou,Aa o]
  by_cases ao:k<n
  ·have r:k<n+1:=by omega
   obtain⟨bk,ok,rfl,bl⟩:=(Aa ak).at ao;have ct:=(H.cell (World.block_lt_of_cell? w3 _ (bl k ao))).trans (bl k ao);have az:f.getD k 0<rs.length:=by
    refine Aa X _ ?_;rw[List.getD_eq_getElem?_getD,List.getElem?_eq_getElem (show k<f.length by rw[Aa o];exact ao)];exact List.getElem_mem _
   have cd:(BI rs f fs s k).set k (Bz (Cc (BB s) (rs.getD (f.getD k 0) []) fs n) (n+k) true)=BI rs f fs s (k+1):=by
    have:=lQ rs f fs s k (by rw[Aa o];omega);unfold I1 at this;rw[Aa o]at this;exact this
   have b3:=Ab cd;have ae:(BI rs f fs s k).getD k []=BB s:=by rw[Ot _ _ _ _ _ _ (by rw[Aa o];omega),if_neg (by omega)]
   generalize f.getD k 0=pl at*;obtain⟨b,off,rfl,hc⟩:=(h.below (Aa ag)).at az;obtain⟨ai,ci,z,J⟩:=hc pl az;have cz:=(H.cell (World.block_lt_of_cell? w3 _ z)).trans z;have g:=(T.row r).2.1;have Z:Below w3.heap.size w3 wr.drew:=H.drew;have ca:Below P w3 wr.drew:=hB.drew;have ck:=(hf.getD pl).2
   have u:=Vj P P R s (n+1) k (BI rs f fs s k) ai (rs.getD pl []).length ci (rs.getD pl []) af n cf fs wr.drew (T.below ((Below.refl _ _).drew)) r (J.below Z)
    (J.lt.imp id fun hl ad e e2=>by have h1:=hl ad e;have h2:=Option.some.inj e2;rw[Aa E]at h1;omega) ((Aa S).below Z)
    ((Aa S).lt.imp id fun hl ad e e2=>by have h1:=hl ad e;have h2:=Option.some.inj e2;rw[Aa E]at h1;omega) (Aa aj) (by omega) aq ck
   rw[ae]at u;generalize rs.getD pl []=y at*;obtain⟨po,I⟩:∃po,k*s=po:=⟨_,rfl⟩;rw[I]at u g;have Y:=Ab I;have G:=Ab u;have b2:=Ab bo;have ah:=Ab ca;have da:(pl:Int)<(rs.length:Int):=by omega
   have db:(k:Int)<(n:Int)+1:=by omega
   clear u T hc bl z J cd ae hB H Z h h' S ak HE aj X bo I ca;go_wp2_with fail;refine wp_region_any (by kernel_rfl) ?_;change wpAny _ _ _ _ _ _ _ (World.drew _);refine wpAny_take (i:=0) (v:=?_) rfl (by kernel_rfl) (by kernel_rfl) (by kernel_rfl) (fun _ _ _ h=>h) (Or.inl ⟨by rfl,?f0⟩) ?_
   case f0=>(intro w;go_simp;try with_reducible rfl)
   refine wpAny_take (i:=1) (v:=?_) rfl (by kernel_rfl) (by kernel_rfl) (by kernel_rfl) (fun _ _ _ h=>h) (Or.inl ⟨by rfl,?f1⟩) ?_
   case f1=>(intro w;go_simp;try with_reducible rfl)
   refine wpAny_take (i:=2) (v:=?_) rfl (by kernel_rfl) (by kernel_rfl) (by kernel_rfl) (fun _ _ _ h=>h) (Or.inl ⟨by rfl,?f2⟩) ?_
   case f2=>(intro w;go_simp;try with_reducible rfl)
   refine wpAny_take (i:=4) (v:=?_) rfl (by kernel_rfl) (by kernel_rfl) (by kernel_rfl) (fun _ _ _ h=>h) (Or.inl ⟨by rfl,?f4⟩) ?_
   case f4=>(intro w;go_simp;try with_reducible rfl)
   refine wpAny_take (i:=5) (v:=?_) rfl (by kernel_rfl) (by kernel_rfl) (by kernel_rfl) (fun _ _ _ h=>h) (Or.inl ⟨by rfl,?f5⟩) ?_
   case f5=>(intro w;go_simp;try with_reducible rfl)
   refine wpAny_take (i:=6) (v:=?_) rfl (by kernel_rfl) (by kernel_rfl) (by kernel_rfl) (fun _ _ _ h=>h) (Or.inl ⟨by rfl,?f6⟩) ?_
   case f6=>(intro w;go_simp;try with_reducible rfl)
   refine wpAny_take (i:=8) (v:=?_) rfl (by kernel_rfl) (by kernel_rfl) (by kernel_rfl) (fun _ _ _ h=>h) (Or.inl ⟨by rfl,?f8⟩) ?_
   case f8=>(intro w;go_simp;try with_reducible rfl)
   refine wpAny_ready (rs:=[3,7]) (by kernel_rfl) (by simp) ?_;refine AllReady.cons rfl (fun K D=>?r1) (AllReady.cons rfl (fun K D=>?r2) AllReady.nil)
   case r1=>
    go_simp;refine D _ _ ?_;clear D K;refine wpAny_ready (rs:=[7]) (by kernel_rfl) (by simp) ?_;refine AllReady.cons rfl (fun K D=>?_) AllReady.nil;go_simp;refine D _ _ ?_;clear D K;refine wpAny_ready (rs:=[9]) (by kernel_rfl) (by simp) ?_;refine AllReady.cons rfl (fun K D=>?_) AllReady.nil;go_simp;refine(Aa G).mono ?_;rintro e w5 ⟨rfl,l,A⟩;have C:=(Aa ah).trans (CJ A (show P<=wr.drew.heap.size from bf) (fun j hj=>by have:=Option.some.inj hj;omega));have d:=(l.row r).2.1;obtain⟨x,N,bu,O,B⟩:=N5 l r (Aa b2) (show n+k<64*s by omega);rw[Aa Y]at N O B d;have hX:=Pf P po s s (n+k) x w5 (by omega) (by omega) N bu O;rw[show((n+k:Nat):Int)=(n:Int)+(k:Int) by simp]at hX;have HX:=Ab hX;rw[Aa b3]at B;have HN:=Ab (And.intro B (C.setCell (p:=⟨P,po+(n+k)/64,none⟩) (by exact Nat.le_refl _) (.int .u64 ((setW x ((n+k)%64) true:Nat):Int))));clear hX N O B C l A G ah;refine D _ _ ?_;clear D K;refine wpAny_done (by kernel_rfl) ?_ _;go_wp2_with fail;refine(Aa HX).mono ?_;rintro e w6 ⟨rfl,hw⟩;rw[<-hw]at HN;clear hw HX d;go_wp2;go_roundw
    case rel=>exact⟨k+1,by omega,by go_num,HN⟩
    case measure=>simp[intOf];omega
   case r2=>
    go_simp;refine D _ _ ?_;clear D K;refine wpAny_ready (rs:=[3]) (by kernel_rfl) (by simp) ?_;refine AllReady.cons rfl (fun K D=>?_) AllReady.nil;go_simp;refine D _ _ ?_;clear D K;refine wpAny_ready (rs:=[9]) (by kernel_rfl) (by simp) ?_;refine AllReady.cons rfl (fun K D=>?_) AllReady.nil;go_simp;refine(Aa G).mono ?_;rintro e w5 ⟨rfl,l,A⟩;have C:=(Aa ah).trans (CJ A (show P<=wr.drew.heap.size from bf) (fun j hj=>by have:=Option.some.inj hj;omega));have d:=(l.row r).2.1;obtain⟨x,N,bu,O,B⟩:=N5 l r (Aa b2) (show n+k<64*s by omega);rw[Aa Y]at N O B d;have hX:=Pf P po s s (n+k) x w5 (by omega) (by omega) N bu O;rw[show((n+k:Nat):Int)=(n:Int)+(k:Int) by simp]at hX;have HX:=Ab hX;rw[Aa b3]at B;have HN:=Ab (And.intro B (C.setCell (p:=⟨P,po+(n+k)/64,none⟩) (by exact Nat.le_refl _) (.int .u64 ((setW x ((n+k)%64) true:Nat):Int))));clear hX N O B C l A G ah;refine D _ _ ?_;clear D K;refine wpAny_done (by kernel_rfl) ?_ _;go_wp2_with fail;refine(Aa HX).mono ?_;rintro e w6 ⟨rfl,hw⟩;rw[<-hw]at HN;clear hw HX d;go_wp2;go_roundw
    case rel=>exact⟨k+1,by omega,by go_num,HN⟩
    case measure=>simp[intOf];omega
  ·obtain rfl:k=n:=by omega
   have r:k<k+1:=by omega
   have ae:(BI rs f fs s k).getD k []=BB s:=by rw[Ot _ _ _ _ _ _ (by rw[Aa o];omega),if_neg (by omega)]
   have g:=(T.row r).2.1;have h3:=h'.below (Aa ag)
   have u:=Vj P P R s (k+1) k (BI rs f fs s k) a' m c' xs af k cf fs wr T r (h3.below H)
    (h3.lt.imp id fun hl ad e e2=>by have h1:=hl ad e;have h2:=Option.some.inj e2;rw[Aa E]at h1;omega) ((Aa S).below H)
    ((Aa S).lt.imp id fun hl ad e e2=>by have h1:=hl ad e;have h2:=Option.some.inj e2;rw[Aa E]at h1;omega) (Aa aj) (by omega) aq hm
   rw[ae]at u;have cp:=IR (Ij s) xs fs k;have bq:(Cc (BB s) xs fs k).length=s:=by rw[Io,Gd]
   have ac:=lP rs f fs s k k (Cc (BB s) xs fs k) cp bq 1048576 (by omega);have bp:((BI rs f fs s k).set k (Cc (BB s) xs fs k)).take k=(BI rs f fs s k).take k:=by
    have:=R5 rs f fs s (Cc (BB s) xs fs k);rw[Aa o]at this;exact this
   have co:((BI rs f fs s k).set k (Cc (BB s) xs fs k)).getD k []=Cc (BB s) xs fs k:=by rw[Ok _ _ _ _ (by omega),if_pos rfl]
   obtain⟨po,I⟩:∃po,k*s=po:=⟨_,rfl⟩;rw[bp]at ac;generalize Cc (BB s) xs fs k=q at*;rw[I]at u g;have Y:=Ab I;have cx:=Ab bq;have G:=Ab u;have HB:=Ab hB;have a5:=Ab (((Aa ag).trans ((hB.mono cl))));have b4:=Ab bp;have cw:=Ab co;have de:=nT R 0 (k+1) (k+1) k (by omega);clear u T ae H h h' h3 aj X S hB bp co bo I bq;go_wp2_with fail;refine(Aa G).mono ?_;rintro e w5 ⟨rfl,l,A⟩;have C:Below P w3 w5:=(Aa HB).trans (CJ A bf (fun j hj=>by have:=Option.some.inj hj;omega));have aa:Below w.heap.size w w5:=(Aa a5).trans (CJ A (Aa a5).size (fun j hj=>by have:=Option.some.inj hj;omega));have bt:=l.vecs (k:=k) (by omega);rw[Aa b4]at bt;have b6:=Ab (KM (some ⟨R,0,none⟩) k (k+1) ((BI rs f fs s k).take k) w5 (ht.below aa) bt ac (by omega));have ay:IntsAt w5 a1 k f:=(Aa ak).below (by rw[Aa E];exact C);have aw:=Ab ay;have bx:=Ab l;have av:=Ab aa;have cm:=Fa ac;have dc:=Kj ac;have dd:((BI rs f fs s k).take k).length<=k:=List.length_take_le _ _;generalize (BI rs f fs s k).take k=RL at*;generalize (BI rs f fs s k).set k q=RN at*;clear C aa bt ay l A G HB a5 ak b4 g ac;go_wp2_with fail;refine(Aa b6).mono ?_;rintro e w6 ⟨dh,dg,di,rfl,cc,ce,an⟩;obtain⟨a6,c6,rfl, -⟩:=cc.ints;obtain⟨a7,c7,rfl,cs⟩:=ce.vecs;obtain⟨bs,c0, -⟩:=((Aa bx).below an).row r;rw[Aa cw,Aa Y]at bs;rw[Aa Y]at c0;have V:=Ab (Ad (Aa av) an);have ax:=Ab ((Aa aw).below an);have b5:=Ab (N6 a7 _ c7 (broughtL RL) (some ⟨P,po,none⟩) s s q w6 (ht.below (Aa V)) cs cm bs (by omega) (by omega));have c4:=EO cm cp (by rw[Aa cx];omega:q.length<=1048576);clear cc ce cs bs an b6 bx aw av;generalize keepL RL RL.length=df at*;generalize broughtL RL=br at*;go_wp2_with fail;refine(Aa b5).mono ?_;rintro e w7 ⟨v7,rfl,cn,bj⟩;obtain⟨ar,cr,rfl,cq⟩:=cn.row;have a9:=Ab (er a1 k c1 f ar _ cr (reduceL br q) w7 ((Aa ax).below bj) cq (by omega) c4.2);have W:=Ab (Ad (Aa V) bj);clear cn cq bj V ax b5;rw[<-Aa HE]at a9;generalize reduceL br q=rq at*;go_wp2_with fail;refine(Aa a9).mono ?_;rintro e w8 ⟨v8,rfl,bd,cg⟩;obtain⟨a8,c8,rfl, -⟩:=bd.ints
   have cv:=Ab (bd.mono (Aa W).size);have cu:=Ab (Ad (Aa W) cg);clear bd cg W a9;go_wp2;go_ret2;exact⟨_,rfl,Aa cv,Aa cu⟩
theorem dy(a:Option Addr)(n c:Nat)(rs:List (List Nat))(d:Option Addr)(m f:Nat)(xs:List Nat)(w:World)(ht:Tab w)(h:VecsAt w a n rs)(k:AC 1048576 rs)(j:RowAt w d m xs)(o:n<=100000)(l:m<=1048576):
  Calls Tryz.prog 257 #[.slice a n c,.slice d m f] w fun e w'=> ∃v,e=.returned (.tuple #[v,.bool (!Fj rs xs)])/\AD w' w.heap.size v (exL rs xs)/\Below w.heap.size w w':=by
 by_cases b:firstI (reduceL (broughtL rs) xs)<0
 ·have g:exL rs xs=exprL rs xs:=by unfold exL;rw[if_pos b]
  have i:Fj rs xs=false:=by unfold Fj;rw[decide_eq_true b];rfl
  rw[g,i];exact dz a n c rs d m f xs w ht h k j o l b
 ·have g:exL rs xs=[]:=by unfold exL;rw[if_neg b]
  have i:Fj rs xs=true:=by unfold Fj;rw[decide_eq_false b];rfl
  rw[g,i];refine(gJ a n c rs d m f xs w ht h k j o l b).mono ?_;rintro e w' ⟨rfl,p⟩;exact⟨_,rfl,AD.nil _ _,p⟩
theorem T7(a:List RV)(i:Nat):(a.map core).getD i zC=core (a.getD i .dflt):=by
 rw[List.getD_eq_getElem?_getD,List.getElem?_map,List.getD_eq_getElem?_getD];cases a[i]? <;>rfl
theorem Ob(a:List RV):vecsL a=vecsC (a.map core):=by
 unfold vecsL vecsC;rw[List.map_map];rfl
theorem my(a:List RV)(ps:List Nat):(atR a ps).map core=Lj (a.map core) ps:=by
 unfold atR Lj;rw[List.map_map];exact List.map_congr_left fun i _=>(T7 a i).symm
theorem eI(a:List RV)(ps:List Nat):DL (atR a ps)=Gk (a.map core) ps:=by
 unfold DL atR Gk;rw[List.map_map];refine List.map_congr_left fun i _=>?_;rw[T7];rfl
def Et(a:List RV):List RV:=atR a (keepL (vecsL a) a.length)
theorem R3(a:List RV):(Et a).map core=CD (a.map core):=by
 unfold Et CD;rw[my,Ob,List.length_map]
theorem Tw(a:List RV):(Et a).length=(keepL (vecsL a) a.length).length:=by simp[Et,atR]
theorem pk(a:List RV):(Et a).length<=a.length:=by rw[Tw];exact GA _ _
theorem WO(a:List RV):∀i∈keepL (vecsL a) a.length,i<a.length:=JK _ _
theorem AD.at'{w:World}{B:Nat}{a:Option Addr}{n c:Nat}{xs:List Nat}(h:AD w B (.slice a n c) xs):n=xs.length/\IntsAt w a n xs:=by
 obtain⟨d,f,e,b⟩:=h.ints;simp only[Value.slice.injEq]at e;obtain⟨rfl,rfl,rfl⟩:=e;exact⟨rfl,b⟩
theorem jb(a:Option Addr)(n c:Nat)(b:List RV)(w:World)(ht:Tab w)(h:Aj w a n b)(B:Ae w b)(I:Af b)(O:n<=100000):
  Calls Tryz.prog 256 #[.slice a n c] w fun e w'=> ∃i c1,e=.returned (.slice i (Et b).length c1)/\Ak w' w.heap.size (.slice i (Et b).length c1) (Et b)/\Below w.heap.size w w':=by
 obtain rfl:=h.1;have G:=Ab (Ol a b.length c b w h (by omega));have E:=Ab (fun(w1:World) (i:Option Addr) (c1:Nat) (z:Below w.heap.size w w1) (P:VecsAt w1 i b.length (vecsL b))=>VF i b.length c1 (vecsL b) w1 (ht.below z) P (P7 B I) O);have D:=Ab (fun(w1:World) (H:Option Addr) (C N:Nat) (z:Below w.heap.size w w1) (hp:IntsAt w1 H C (keepL (vecsL b) b.length)) (A:C<=1048576)=>Xc a b.length c b H C N (keepL (vecsL b) b.length) w1 (h.below z) hp (WO b) (by omega) A);have x:=Ab (GA (vecsL b) b.length);have J:=Ab B;clear h B I ht;go_enter Tryz.func256,Tryz.ntmps256;go_wp2_with fail;refine(Aa G).mono ?_;rintro e w1 ⟨Q,rfl,r,g⟩;obtain⟨i,c1,rfl,u⟩:=r.vecs ((Aa J).below g);have d:=Aa E w1 i c1 g u;rw[KF]at d;have d:=Ab d;have l:=Ab g;clear r g u G E;go_wp2_with fail;refine(Aa d).mono ?_;rintro e w2 ⟨R,rfl,s,o⟩;obtain⟨K,c2,rfl,q⟩:=s.ints;have f:=Ab (Ad (Aa l) o);have k:=Ab (Aa D w2 K _ c2 (Aa f) q (by have:=Aa x;omega));clear s o q d D l;go_wp2_with fail;refine(Aa k).mono ?_;rintro e w3 ⟨v3,rfl,j,p⟩;obtain⟨a3,c3,rfl⟩:=j.shape;have y:=Ab (j.mono (Aa f).size);have v:=Ab (Ad (Aa f) p);clear j p k f;go_wp2;go_ret;exact⟨a3,c3,rfl,Aa y,Aa v⟩
theorem ZN(rs:List (List Nat))(xs:List Nat):(∀i∈exL rs xs,i<rs.length)/\(exL rs xs).length<=rs.length:=by
 have a:=GA rs rs.length;unfold exL;split
 ·unfold exprL
  exact⟨To (Nat.le_refl _),Nat.le_trans (NS _ _ _) a⟩
 ·exact⟨(fun i b=>by cases b),Nat.zero_le _⟩
def Ni(w w':World)(L:List (List Nat×ByteArray))(a:Option Addr)(b c1:Nat)(us:List RV):Prop:=
 Ak w' w.heap.size (.slice a b c1) us/\Ae w' us/\Af us/\us.length<=1000/\us.map core=L/\Below w.heap.size w w'
theorem ez(K:Nat)(us:List RV)(b:Nat):st (Cy (DL (atR (Et us) (exL (vecsL (Et us)) (unitL (K:Int) (b:Int))))))=blockC (K:Int) (us.map core) b:=by
 unfold blockC;rw[eI,R3,Ob,R3]
theorem bZ(k:Int)(a:Option Addr)(n c:Nat)(L:List (List Nat×ByteArray))(w:World)(ht:Tab w)
  (hw:∀w1,Below w.heap.size w w1->Calls Tryz.prog 215 #[.int .i64 k,.slice a n c] w1 fun e w'=> ∃T m1 c1 us,e=.returned (.slice T m1 c1)/\Ni w1 w' L T m1 c1 us):
  Calls Tryz.prog 216 #[.agg #[.int .i64 k,.func (.func 215) #[] #[]],.slice a n c] w fun e w'=> ∃T m1 c1,e=.returned (.tuple #[.slice T m1 c1,.bool (Eb k L)])/\Ar w' w.heap.size (.slice T m1 c1) (solveC k L)/\Below w.heap.size w w':=by
 have Y:Below w.heap.size w (w.alloc (.cells #[.int .i64 k,.func (.func 215) #[] #[]] 309)):=(Below.refl _ _).alloc (Nat.le_refl _) _;have hx:A4 (w.alloc (.cells #[.int .i64 k,.func (.func 215) #[] #[]] 309)) w.heap.size (.int .i64 k) (.func (.func 215) #[] #[]):=by constructor<;>simp
 have aj:=Ab (fun w2 (d:Below (w.alloc (.cells #[.int .i64 k,.func (.func 215) #[] #[]] 309)).heap.size (w.alloc (.cells #[.int .i64 k,.func (.func 215) #[] #[]] 309)) w2)=>hx.below d);have I:=Ab Y;have HW:=Ab (hw _ Y);have HZ:=Ab (Hc k);have ar:=Ab (fun(w1:World) (d:Below w.heap.size w w1)=>ht.below d);clear hw Y hx ht;by_cases hz:sizeOfK k=0
 ·have f:Eb k L=false:=by unfold Eb;rw[hz];rfl
  have g:solveC k L=[]:=by unfold solveC;rw[f];rfl
  rw[hz]at HZ;go_enter Tryz.func216,Tryz.ntmps216;go_wp2_with (go_at_call 176;refine(Aa HZ _).mono ?_;rintro e w' ⟨rfl,x⟩;obtain rfl:=x.symm;clear x);go_ret2;rw[f,g];exact⟨none,0,0,rfl,Ar.nil _ _,Aa I⟩
 have bl:=Ab (show 0<sizeOfK k by omega);obtain⟨bu,bp⟩:=(DX (k:=k) (by omega)).2;obtain⟨K,rfl⟩:∃K:Nat,k=(K:Int):=⟨k.toNat,(Int.toNat_of_nonneg (by omega)).symm⟩;obtain⟨z,bd⟩:∃z,sizeOfK (K:Int)=z:=⟨_,rfl⟩;rw[bd]at HZ hz;have bt:((z:Int)==0)=false:=by rw[beq_eq_false_iff_ne];omega
 clear bd;go_enter Tryz.func216,Tryz.ntmps216;go_wp2_with fail;refine(Aa HZ _).mono ?_;rintro e w' ⟨rfl,x⟩;obtain rfl:=x.symm;clear x HZ;go_wp2_with fail;refine(Aa HW).mono ?_;rintro e w1 ⟨T,m1,c1,us,rfl,ad,u,ae,bw,hL,Z⟩;have W:=Ad (Aa I) Z;obtain⟨h,l⟩:=Aa aj w1 Z;have an:=Ab (jb T m1 c1 us w1 (Aa ar w1 W) (ad.at' u).1 u ae (by have:=(ad.at' u).2.1;omega));have Q:=Ab (fun(w2:World) (d:Below w1.heap.size w1 w2)=>(u.below d).atR (WO us));have R:=Ab (Uf ae (keepL (vecsL us) us.length));have ap:=Ab (pk us);have af:=Ab W;have C:=Ab (fun(w2:World) (d:Below w1.heap.size w1 w2)=>(A4.below ⟨h,l⟩ d:A4 w2 w.heap.size (.int .i64 (K:Int)) (.func (.func 215) #[] #[])));have H:Eb (K:Int) L=decide ((K:Int)<=((Et us).length:Int)):=by
  unfold Eb;rw[decide_eq_true (Aa bl),Bool.true_and,Tw,Ob,hL,<-hL,List.length_map]
 have r:=Ab H;have au:=Ab (fun b=>ez K us b);rw[hL]at au;change Hid (∀(w2:World),Below w1.heap.size w1 w2->Ae w2 (Et us))at Q;change Hid (Af (Et us))at R;clear HW ad u ae hL Z W H aj I;generalize Et us=ks at*;go_wp2_with fail;refine(Aa an).mono ?_;rintro e w2 ⟨a2,c2,rfl,a7,A⟩;obtain⟨h,l⟩:=Aa C w2 A;have ac:=Aa Q w2 A;have S:=Ab (a7.at' ac).1;have P:=Ab ac;have J:=Ab (Ad (Aa af) A);have D:=Ab (fun(w3:World) (d:Below w2.heap.size w2 w3)=>(A4.below ⟨h,l⟩ d:A4 w3 w.heap.size (.int .i64 (K:Int)) (.func (.func 215) #[] #[])));clear an a7 ac A Q af C;by_cases bz:ks.length<K
 ·have f:Eb (K:Int) L=false:=by rw[Aa r,decide_eq_false_iff_not];omega
  have g:solveC (K:Int) L=[]:=by unfold solveC;rw[f];rfl
  have hd:decide ((ks.length:Int)<(K:Int))=true:=by rw[decide_eq_true_iff];omega
  go_wp2;go_ret2;rw[f,g];exact⟨none,0,0,rfl,Ar.nil _ _,Aa J⟩
 have f:Eb (K:Int) L=true:=by rw[Aa r,decide_eq_true_iff];omega
 have g:solveC (K:Int) L=(List.range K).map (blockC (K:Int) L):=by unfold solveC;rw[f,if_pos rfl,Int.toNat_natCast]
 have hd:decide ((ks.length:Int)<(K:Int))=false:=by rw[decide_eq_false_iff_not];omega
 have bx:ks.length<=1000:=by have:=Aa ap;omega
 have HV:=Ab (Ol a2 ks.length c2 ks w2 (Aa S) (by omega));clear r ap;go_wp2_with fail;refine(Aa HV).mono ?_;rintro e w3 ⟨v3,rfl,a8,o⟩;obtain⟨a3,c3,rfl,bc⟩:=a8.vecs ((Aa P).below o);obtain⟨h,l⟩:=Aa D w3 o;have bm:=Ab bc;have ao:=Ab ((Aa P).below o);have bh:=Ab ((Aa S).below o);have N:=Ab (Ad (Aa J) o);have bg:=Ab (P7 (Aa ao) (Aa R));have ak:=Ab (fun(B:World) (d:Below w3.heap.size w3 B)=>(A4.below ⟨h,l⟩ d:A4 B w.heap.size (.int .i64 (K:Int)) (.func (.func 215) #[] #[])));have b0:=N2 K (by omega);obtain⟨q,y⟩:∃q,q=(List.range K).map (blockC (K:Int) L):=⟨_,rfl⟩;have s:Hid (q.length=K):=Ab (by rw[y];simp);have bi:Hid (∀b,b<K->q.getD b ByteArray.empty=blockC (K:Int) L b):=Ab (fun b d=>by rw[y,List.getD_eq_getElem?_getD,List.getElem?_map,List.getElem?_range d];rfl);rw[<-y]at g;have r:=Ab f;have bj:=Ab g;clear f g;have HM:=Ab (Ku w3 K (by omega) (Dl q 0) (by rw[TS,Aa s]));have ai:Hid (Below w3.heap.size w3 (w3.alloc (.cells (madeCells #[.string ByteArray.empty] K) 9))):=Ab ((Below.refl _ _).alloc (Nat.le_refl _) _);clear HV a8 o bc P S J D y;go_wp2;go_loopw [35] (fun i wr=> ∃j:Nat,j<=K/\i=.int .i64 j/\Hid (Ar wr w3.heap.size (.slice (some ⟨w3.heap.size,0,none⟩) K K) (Dl q j))/\Hid (Below w3.heap.size w3 wr)) (fun i _=>K-(intOf i).toNat)
 case atStart=>exact⟨0,Nat.zero_le _,rfl,HM,ai⟩
 case round=>
  obtain⟨j,hj,rfl,HI,HB⟩:=hrel;clear HM ai h l;by_cases a6:j<K
  ·have V:=Aa HB
   obtain⟨h,l⟩:=Aa ak wr V;have G:(j:Int)<(K:Int):=by omega
   have HU:=Ab (Wg (K:Int) (j:Int) wr (by omega));have am:=Ab (fun(B:World) (a4:Option Addr) (m4 c4:Nat) (d:Below wr.heap.size wr B) (h4:RowAt B a4 m4 (unitL (K:Int) (j:Int))) (bq:m4<=1048576)=>dy a3 ks.length c3 (vecsL ks) a4 m4 c4 (unitL (K:Int) (j:Int)) B (Aa ar B (Ad (Aa N) (Ad V d))) ((Aa bm).below (Ad V d)) (Aa bg) h4 (by omega) bq);have ab:=ZN (vecsL ks) (unitL (K:Int) (j:Int));rw[KF]at ab;have O:=Ab (fun(w5:World) (a5:Option Addr) (m5 c5:Nat) (d:Below wr.heap.size wr w5) (h5:IntsAt w5 a5 m5 (exL (vecsL ks) (unitL (K:Int) (j:Int))))=>oe a2 ks.length c2 ks a5 m5 c5 _ w5 ((Aa bh).below (Ad V d)) ((Aa ao).below (Ad V d)) (Aa R) h5 ab.1 (by omega) (by have:=h5.1;omega));rw[Aa au j]at O;have br:(unitL (K:Int) (j:Int)).length<=1048576:=by rw[JA G];have:=DW (K:Int);omega
   have hS:=TR q j (by have:=Aa s;omega);rw[Aa bi j a6]at hS;have bo:(Dl q j).length=K:=by rw[RY _ _ (by have:=Aa s;omega),Aa s]
   have aq:=Ab (fun(w6:World) (d:Below wr.heap.size wr w6)=>by
    have hI:=(Aa HI).below d;obtain⟨g2,bs,e2,_,_,ay,az⟩:=hI.at (by omega);simp only[Value.slice.injEq,Option.some.injEq,Addr.mk.injEq,and_true]at e2;obtain⟨rfl, -, -⟩:=e2;have v:=hI.stored j (blockC (K:Int) L j);rw[hS]at v;exact And.intro (ay j (by omega)) (And.intro (az j) (And.intro v ((Ad V d).setCell (p:=⟨w3.heap.size,j,none⟩) (Nat.le_refl _) (.string (blockC (K:Int) L j))))))
   clear V ab hS bo HI;generalize (Dl q j).getD j ByteArray.empty=zz at*;generalize blockC (K:Int) L j=TX at*;generalize exL (vecsL ks) (unitL (K:Int) (j:Int))=PS at*;generalize unitL (K:Int) (j:Int)=UU at*;go_wp2_with fail;refine(Aa HU).mono ?_;rintro e B ⟨v4,rfl,a9,aa⟩;obtain⟨a4,c4,rfl,bb⟩:=a9.row;have E:=Ab (Aa am B a4 _ c4 aa bb br);have ag:=Ab aa;clear a9 aa bb HU am;go_wp2_with fail;refine(Aa E).mono ?_;rintro e w5 ⟨v5,rfl,ba,aw⟩;obtain⟨a5,c5,rfl,a0⟩:=ba.ints;have X:=Ad (Aa ag) aw;have al:=Ab (Aa O w5 a5 _ c5 X a0);have ah:=Ab X;clear ba aw a0 X E O ag;go_wp2_with fail;refine(Aa al).mono ?_;rintro e w6 ⟨rfl,ax⟩;obtain⟨bn,bv,v,av⟩:=Aa aq w6 (Ad (Aa ah) ax);have HS:=Ab v;have bf:=Ab av;clear ax v av aq al ah;go_wp2;go_roundw
   case rel=>exact⟨j+1,by omega,by go_num,HS,bf⟩
   case measure=>simp[intOf];omega
  ·obtain rfl:j=K:=by omega
   have G:¬(j:Int)<(j:Int):=by omega
   rw[show Dl q j=q by have:=Vr q;rwa[Aa s]at this]at HI;go_wp2;go_ret2;rw[Aa r,Aa bj];exact⟨_,_,_,rfl,(Aa HI).mono (Aa N).size,Ad (Aa N) (Aa HB)⟩
end Go.Proofs.YtmmikiikddokgaaGreatDoor
