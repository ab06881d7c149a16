/- Laws for the proof. -/
import Derived.Test.YtfpmnekaockodaaGreatDoorU26
set_option linter.all false
open Go.Proofs.Tryz
open List renaming getD_eq_getElem?_getD->U,getElem?_eq_getElem->α,mem_cons_of_mem->κ,mem_cons_self->ν,getElem?_map->ξ,length_map->π,map_congr_left->σ,getElem_mem->φ,map_map->χ,foldl_cons->ψ,replicate->ω,range->Γ
open Go.RowKit renaming Below->β
open Option.some renaming inj->γ,injEq->Β
open Go.Value renaming slice->δ,string->ς,int->υ
open Nat renaming zero_le->ε,le_refl->ζ,xor_assoc->ο,testBit_two_pow->Α
open Go renaming World->η
open Int renaming toNat_natCast->θ
open Go.Value.slice renaming injEq->ι
open Go.AllReady renaming cons->μ,nil->ρ
open And renaming intro->τ
namespace Go.Proofs.YtfpmnekaockodaaGreatDoor
open Go.RowKit Go.Sort
set_option maxRecDepth 4000
set_option maxHeartbeats 8000000
variable {L:List (List Nat×ByteArray)}{ss:List ByteArray}{m:Nat}
def VR:∀(l:List Nat) (a n:Nat),l.Pairwise (· < ·)->(∀x∈l,a<=x/\x<n)->a<=n->l.length<=n-a/\(l.length=n-a->∀x,a<=x->x<n->x∈l)
 |[],a,n,_,_,_=>⟨ε _,fun h x d f=>by simp at h;omega⟩
 |y::l,a,n,hp,b,k=>by
  have d:=b y ν;obtain⟨o,j⟩:=VR l (y+1) n (List.pairwise_cons.1 hp).2 (fun x c=>⟨(List.pairwise_cons.1 hp).1 x c,(b x (κ _ c)).2⟩) (by omega);refine⟨by rw[List.length_cons];omega,fun h x f g=>?_⟩;rw[List.length_cons]at h;have i:y=a:=by omega
  subst i;by_cases e:x=y
  ·rw[e];exact ν
  ·exact κ _ (j (by omega) x (by omega) g)
def rX{B:List Nat}{k:Nat}(h:Ech.Red B)(p:∀b∈B,b<2^k):B.length<=k/\(B.length=k->∀i,i<k->2^i∈B):=by
 have hp:(B.map Ech.low).Pairwise (· < ·):=by
  rw[List.pairwise_map];exact h.2.imp fun h=>h.1
 have v:∀x∈B.map Ech.low,0<=x/\x<k:=fun x w=>by
  obtain⟨b,d,rfl⟩:=List.mem_map.1 w;exact⟨ε _,Ech.low_lt (h.1 b d) (p b d)⟩
 obtain⟨r,n⟩:=VR _ 0 k hp v (ε _);rw[π]at r n;refine⟨by omega,fun e i s=>?_⟩;obtain⟨b,a,f⟩:=List.mem_map.1 (n (by omega) i (ε _) s);suffices b=2^i by rw[<-this];exact a
 apply Nat.eq_of_testBit_eq;intro j;rw[Α];by_cases l:i=j
 ·rw[decide_eq_true l,<-l,<-f,Ech.low_bit (h.1 b a)]
 ·rw[decide_eq_false l]
  by_cases u:j<k
  ·obtain⟨c,o,g⟩:=List.mem_map.1 (n (by omega) j (ε _) u)
   have:=(h.two a o (fun q=>l (by rw[<-f,<-g,q]))).2;rwa[g]at this
  ·exact Nat.testBit_lt_two_pow (Nat.lt_of_lt_of_le (p b a) (Nat.pow_le_pow_right (by omega) (by omega)))
def dF{B:List Nat}{k x:Nat}(h:∀b∈B,b<2^k)(a:Ech.Sp B x):x<2^k:=
 Ech.Sp.ind (P:=fun x=>x<2^k) (Nat.two_pow_pos k) (fun b x c a=>Nat.xor_lt_two_pow (h b c) a) a
def nw{k:Int}{xs:List Nat}(b:Ac xs)(h:AX k xs=true):val xs<2^k.toNat:=by
 apply Nat.lt_pow_two_of_testBit;intro i c;rw[CL b];cases a:Ah xs i
 ·rfl
 ·have:=(GS h).2.2 i a;omega
def OY{M:Nat}{k:Int}{V:List (List Nat)}(f:Ay M V)(n:∀v∈V,AX k v=true):(Ce V).length<=k.toNat/\((Ce V).length=k.toNat->∀i,i<k.toNat->Ech.Sp (V.map val) (2^i)):=by
 have c:=KH f
 have d:∀b∈Ech.basis (V.map val),b<2^k.toNat:=fun b c=>by
  refine dF (B:=V.map val) (fun x o=>?_) ((Ech.sp_basis _ _).1 (.of_mem c));obtain⟨v,a,rfl⟩:=List.mem_map.1 o;exact nw (f v a).1 (n v a)
 obtain⟨h,j⟩:=rX (Ech.red_basis (V.map val)) d;have g:=congrArg List.length c;rw[π]at g;rw[g];exact⟨h,fun e i l=>(Ech.sp_basis _ _).1 (.of_mem (j e i l))⟩
def zC:List Nat×ByteArray:=([],ByteArray.empty)
def vecsC(L:List (List Nat×ByteArray)):List (List Nat):=L.map Prod.fst
def Lu(L:List (List Nat×ByteArray))(ps:List Nat):List (List Nat×ByteArray):=ps.map fun i=>L.getD i zC
def Cw(L:List (List Nat×ByteArray)):List (List Nat×ByteArray):=Lu L (keepL (vecsC L) L.length)
def Gu(L:List (List Nat×ByteArray))(ps:List Nat):List ByteArray:=ps.map fun i=>(L.getD i zC).2
def blockC(k:Int)(L:List (List Nat×ByteArray))(b:Nat):ByteArray:=st (Ct (Gu (Cw L) (exL (vecsC (Cw L)) (unitL k (b:Int)))))
def Ec(k:Int)(L:List (List Nat×ByteArray)):Bool:=decide (0<sizeOfK k)&&decide (k<=((keepL (vecsC L) L.length).length:Int))
def solveC(k:Int)(L:List (List Nat×ByteArray)):List ByteArray:=if Ec k L=true then(Γ k.toNat).map (blockC k L)else []
def I6(L:List (List Nat×ByteArray)):(vecsC L).length=L.length:=by simp[vecsC]
def UB(L:List (List Nat×ByteArray))(i:Nat):(vecsC L).getD i []=(L.getD i zC).1:=by
 unfold vecsC;rw[U,ξ,U];cases L[i]? <;>rfl
def OP(L:List (List Nat×ByteArray)):vecsC (Cw L)=G1 (vecsC L):=by
 unfold Cw Lu G1 Et;rw[I6];unfold vecsC;rw[χ];refine σ fun i _=>?_;show(L.getD i zC).1=_;exact(UB L i).symm
def R7(L:List (List Nat×ByteArray)):(Cw L).length=(keepL (vecsC L) L.length).length:=by simp[Cw,Lu]
def UX{x:List Nat×ByteArray}(h:x∈Cw L):x∈L:=by
 obtain⟨i,b,rfl⟩:=List.mem_map.1 h;have a:=JW (vecsC L) _ i b;rw[U,α a];exact φ a
def C5(M:Nat)(L:List (List Nat×ByteArray)):Prop:=Ay M (vecsC L)
def C5.kept{M:Nat}(h:C5 M L):C5 M (Cw L):=by
 unfold C5;rw[OP];exact jw h _
def Xi(f:Nat->Nat)(a b:List Nat):∀n,Cp f (xorL a b) n=Cp f a n^^^Cp f b n
 |0=>by simp[Cp]
 |n+1=>by
  unfold Cp;rw[Vy,Xi f a b n];cases Ah a n<;>cases Ah b n
  ·simp
  ·simp[ο]
  ·simp only[Bool.xor_false,if_true,Bool.false_eq_true,if_false]
   rw[ο,Nat.xor_comm (Cp f b n),<-ο]
  ·simp only[Bool.xor_self,if_true,Bool.false_eq_true,if_false]
   rw[ο,Nat.xor_comm (f n),ο,Nat.xor_self,Nat.xor_zero]
def Xh(f:Nat->Nat):∀n,Cp f [] n=0
 |0=>rfl
 |n+1=>by
  unfold Cp;rw[EV [] n (by simp),Xh f n];rfl
def Kb(ss:List ByteArray)(m:Nat)(x:List Nat×ByteArray):Prop:=DK ss x.1 x.2=true/\x.2.size=m
def V7{ss:List ByteArray}{m:Nat}{L:List (List Nat×ByteArray)}(j:Nat):∀(ps:List Nat) (a x:List Nat),(∀i∈ps,Kb ss m (L.getD i zC))->a.getD j 0=Cp (fun b=>(tx (ss.getD b ByteArray.empty)).getD j 0) x ss.length->
  ((Gu L ps).foldl (fun a s=>xorL a (tx s)) a).getD j 0=Cp (fun b=>(tx (ss.getD b ByteArray.empty)).getD j 0) (ps.foldl (fun x i=>xorL x ((vecsC L).getD i [])) x) ss.length
 |[],a,x,_,h=>h
 |i::ps,a,x,hp,h=>by
  unfold Gu;rw[List.map_cons,ψ,ψ];refine V7 j ps _ _ (fun q c=>hp q (κ _ c)) ?_;rw[Do,Xi,h,UB,(Ku.1 (hp i ν).1).1 j]
def V6{ss:List ByteArray}{m:Nat}{L:List (List Nat×ByteArray)}:∀(ps:List Nat) (a:List Nat),(∀i∈ps,Kb ss m (L.getD i zC))->a.length=m\/(a.length<=m/\ps≠ [])->((Gu L ps).foldl (fun a s=>xorL a (tx s)) a).length=m
 |[],a,_,h=>by
  rcases h with h|h
  ·exact h
  ·exact absurd rfl h.2
 |i::ps,a,hp,h=>by
  unfold Gu;rw[List.map_cons,ψ];refine V6 ps _ (fun q b=>hp q (κ _ b)) (.inl ?_);have:=(hp i ν).2;rw[BS,AR,this];rcases h with h|h<;>omega
def nb{ps:List Nat}{b:Nat}(hp:∀i∈ps,Kb ss m (L.getD i zC))(q:Ac (Ek (vecsC L) ps))(g:val (Ek (vecsC L) ps)=2^b)(o:b<ss.length)(p:(ss.getD b ByteArray.empty).size=m):
  st (Ct (Gu L ps))=ss.getD b ByteArray.empty:=by
 apply Jj;rw[Dv (kG _)];have c:ps≠ []:=by
  rintro rfl;have k:val (Ek (vecsC L) [])=0:=by simp[Ek,val]
  rw[k]at g;have:=Nat.two_pow_pos b;omega
 have a:(Ct (Gu L ps)).length=m:=V6 ps [] hp (.inr ⟨ε _,c⟩);refine Ee (by rw[a,AR,p]) fun j _=>?_;have l:=V7 (ss:=ss) (m:=m) (L:=L) j ps [] [] hp (by rw[Xh];rfl)
 have n:∀i,Ah (Ek (vecsC L) ps) i=decide (i=b):=fun i=>by
  rw[<-CL q,g,Α];by_cases e:i=b
  ·simp[e]
  ·rw[decide_eq_false e,decide_eq_false (fun h=>e h.symm)]
 have d:=MY (f:=fun b=>(tx (ss.getD b ByteArray.empty)).getD j 0) n ss.length;rw[if_pos o]at d;exact l.trans d
def WK{rs:List (List Nat)}(xs:List Nat)(b:Ay 1048576 rs)(d:rs.length<=100000)(e:Ac xs){c:Nat}(a:Cb rs xs c):∀i∈exprL rs xs,i<rs.length:=by
 rw[NQ b d e a];exact Uf (ζ _)
def gw(B:0<sizeOfK (ss.length:Int))(o:C5 1048576 L)(C:L.length<=100000)(z:∀x∈L,AX (ss.length:Int) x.1=true)(ht:∀x∈L,Kb ss m x)(w:∀b,b<ss.length->(ss.getD b ByteArray.empty).size=m)
  (y:(Ce (vecsC L)).length=ss.length) {b:Nat} (j:b<ss.length):blockC (ss.length:Int) L b=ss.getD b ByteArray.empty:=by
 have a:((b:Nat):Int)<(ss.length:Int):=by omega
 have s:val (unitL (ss.length:Int) (b:Int))=2^b:=K9 (Fh a) (I7 B a);have p:(unitL (ss.length:Int) (b:Int)).length<=1048576:=by rw[JL a];have:=DU (ss.length:Int);omega
 have g:Ech.Sp ((vecsC (Cw L)).map val) (val (unitL (ss.length:Int) (b:Int))):=by
  rw[OP,MT o,s]
  have r:∀v∈vecsC L,AX (ss.length:Int) v=true:=fun v q=>by
   obtain⟨x,A,rfl⟩:=List.mem_map.1 q;exact z x A
  exact(OY o r).2 (by rw[θ];exact y) b (by rw[θ];exact j)
 have d:=o.kept;have f:(vecsC (Cw L)).length<=100000:=by
  rw[I6,R7];have:=GL (vecsC L) L.length;omega
 obtain⟨c,k⟩:=Ue d g;have h:firstI (reduceL (broughtL (vecsC (Cw L))) (unitL (ss.length:Int) (b:Int)))<0:=(L1 d (Fh a) p).2 g;have n:exL (vecsC (Cw L)) (unitL (ss.length:Int) (b:Int))=exprL (vecsC (Cw L)) (unitL (ss.length:Int) (b:Int)):=by unfold exL;rw[if_pos h]
 unfold blockC;rw[n];have l:=NQ d f (Fh a) k;refine nb (fun i u=>?_) (Ur d _).1 ?_ j (w b j)
 ·have e:=WK _ d f (Fh a) k i u
  rw[I6]at e;rw[U,α e];exact ht _ (UX (φ e))
 ·rw[l,<-s]
  exact k.sum d
def kE(l:0<sizeOfK (ss.length:Int))(c:C5 1048576 L)(o:L.length<=100000)(k:∀x∈L,AX (ss.length:Int) x.1=true)(ht:∀x∈L,Kb ss m x)(n:∀b,b<ss.length->(ss.getD b ByteArray.empty).size=m):
  Ec (ss.length:Int) L=decide ((Ce (vecsC L)).length=ss.length)/\((Ce (vecsC L)).length=ss.length->solveC (ss.length:Int) L=ss)/\((Ce (vecsC L)).length≠ss.length->solveC (ss.length:Int) L=[]):=by
 have h:∀v∈vecsC L,AX (ss.length:Int) v=true:=fun v g=>by
  obtain⟨x,p,rfl⟩:=List.mem_map.1 g;exact k x p
 have f:=(OY c h).1;rw[θ]at f;have d:(keepL (vecsC L) L.length).length=(Ce (vecsC L)).length:=by rw[<-I6];exact Md c
 have a:Ec (ss.length:Int) L=decide ((Ce (vecsC L)).length=ss.length):=by
  unfold Ec;rw[decide_eq_true l,Bool.true_and,d];exact decide_eq_decide.2 (by omega)
 refine⟨a,fun e=>?_,fun e=>?_⟩
 ·unfold solveC
  rw[a,if_pos (decide_eq_true e),θ];refine List.ext_getElem (by simp) fun i q j=>?_;rw[List.getElem_map,List.getElem_range,gw l c o k ht n e j,U,α j];rfl
 ·unfold solveC
  rw[a,if_neg (by simp[e])]
def Dh(ss:List ByteArray)(k:Nat):List ByteArray:=ss.take k++ω (ss.length-k) ByteArray.empty
def TJ(ss:List ByteArray):Dh ss 0=ω ss.length ByteArray.empty:=by simp[Dh]
def Vf(ss:List ByteArray):Dh ss ss.length=ss:=by simp[Dh]
def Sf(ss:List ByteArray)(k:Nat)(a:k<=ss.length):(Dh ss k).length=ss.length:=by simp[Dh];omega
def TI(ss:List ByteArray)(k:Nat)(a:k<ss.length):(Dh ss k).set k (ss.getD k ByteArray.empty)=Dh ss (k+1):=by
 unfold Dh;have b:(ss.take k).length=k:=by simp;omega
 rw[List.set_append_right _ _ (by omega),b,Nat.sub_self,List.take_succ_eq_append_getElem a,List.append_assoc,show ss.length-k=(ss.length-(k+1))+1 by omega,List.replicate_succ,List.set_cons_zero];simp[U,α a]
def DL(us:List RV):List ByteArray:=us.map fun r=>r.s
def JD(us:List RV):(DL us).length=us.length:=by simp[DL]
def kM(us:List RV)(k:Nat)(a:k<us.length):(DL us).getD k ByteArray.empty=(us.getD k .dflt).s:=by
 unfold DL;rw[U,ξ,α a,U,α a];rfl
def fQ{us:List RV}(h:Af us):shorts (DL us):=fun s c=>by
 obtain⟨r,b,rfl⟩:=List.mem_map.1 c;obtain⟨i,a,rfl⟩:=List.mem_iff_getElem.1 b;have:=(h i).2;rw[U,α a]at this;simp only[Option.getD_some]at this;omega
def Uq{a:List RV}(h:Af a)(ps:List Nat):Af (atR a ps):=fun i=>by
 by_cases b:i<ps.length
 ·rw[WF a ps i b];exact h _
 ·rw[U,List.getElem?_eq_none (by rw[Ht];omega)]
  exact L5 0
def pA(a:Option Addr)(n c:Nat)(o:List RV)(Y:Option Addr)(np cp:Nat)(ps:List Nat)(w:η)(h:Aj w a n o)(hr:Ae w o)(hs:Af o)(hp:IntsAt w Y np ps)(hl:∀i∈ps,i<n)(hn:n<=1048576)(l:np<=1048576):
  Calls Tryz.prog 259 #[δ a n c,δ Y np cp] w fun e w'=>e=.returned (ς (st (Ct (DL (atR o ps)))))/\β w.heap.size w w':=by
 obtain rfl:=hp.1;have aj:=Ov ps.length l;have hM:=KJ w ps.length l (Dh (DL (atR o ps)) 0) (by rw[TJ,JD,Ht]);have j:β w.heap.size w (w.alloc (.cells (madeCells #[ς ByteArray.empty] ps.length) 9)):=(Below.refl _ _).alloc (ζ _) _;have Q:(w.alloc (.cells (madeCells #[ς ByteArray.empty] ps.length) 9)).heap.size=w.heap.size+1:=A7 _ _;have B:=Ab (QL a n c o Y ps.length cp ps _ (h.below j) (hp.below j) hl hn l);have J:Hid ((atR o ps).length=ps.length):=Ab (Ht o ps);have V:=Ab (fQ (Uq hs ps));have HM:=Ab hM;have D:=Ab j;have X:=Ab Q;clear h hp hl hr hs hM j Q;generalize atR o ps=us at*;go_enter func259,ntmps259;go_wp2_with fail;refine(Aa B).mono ?_;rintro e w1 ⟨v1,rfl,f,b⟩;obtain⟨a1,c1,rfl⟩:=f.shape;rw[Aa X]at f;rw[Aa J]at f⊢;have I:=Ab f;have H:=Ab ((Aa HM).below b);have C:=Ab (Ad (Aa D) b);clear f b B HM D;go_wp2;go_loopw [15] (fun i wr=> ∃k:Nat,k<=ps.length/\i=υ .i64 k/\Hid (Ar wr w.heap.size (δ (some ⟨w.heap.size,0,none⟩) ps.length ps.length) (Dh (DL us) k))/\Hid (Ak wr (w.heap.size+1) (δ a1 ps.length c1) us)/\Hid (β w.heap.size w wr)) (fun i _=>ps.length-(intOf i).toNat)
 case atStart=>exact⟨0,ε _,rfl,H,I,C⟩
 case round=>
  obtain⟨k,hk,rfl,E,S,R⟩:=hrel;clear H I C;have d:=Aa J;by_cases ai:k<ps.length
  ·have N:=Aa S
   obtain⟨g,rfl⟩:∃g,a1=some ⟨g,0,none⟩:=by
    rcases N.2 with⟨e,h0⟩|⟨g,cap,ae,e,_⟩
    ·omega
    ·simp only[ι]at e;exact⟨g,e.1⟩
   have x:=In us k (by omega);have af:=N.cellAt x.1;have ag:=N.cellAt x.2;have ad:(k:Int)<(ps.length:Int):=by omega
   have hS:=TI (DL us) k (by rw[JD];omega);rw[kM us k (by omega)]at hS;generalize us.getD k .dflt=r at*;have b:β wr.heap.size wr (wr.alloc (.cells #[.slice r.a r.n r.c,ς r.s] 73)):=(Below.refl _ _).alloc (ζ _) _;have Z:=(Aa E).below b;have ab:(Dh (DL us) k).length=ps.length:=by rw[Sf _ _ (by rw[JD];omega),JD,d]
   obtain⟨g2,ac,A,_,_,q,u⟩:=Z.at (by omega);simp only[ι,Β,Addr.mk.injEq,and_true]at A;obtain⟨rfl, -, -⟩:=A;have aa:=q k (by omega);have ah:=u k;have y:=Z.stored k r.s;rw[hS]at y;have K:=(Ad (Aa R) b).setCell (p:=⟨w.heap.size,k,none⟩) (ζ _) (ς r.s);have O:=(N.below b).keptB (Bz _ w.heap.size k (ς r.s)) (by omega);obtain⟨ak,al⟩:=GT wr (.slice r.a r.n r.c) (ς r.s);have HS:=Ab y;have v:=Ab K;have T:=Ab O;clear x Z y K b hS E R S N O ab q u;generalize (Dh (DL us) k).getD k ByteArray.empty=z at*;go_wp2;go_roundw
   case rel=>exact⟨k+1,by omega,by go_num,HS,T,v⟩
   case measure=>simp[intOf];omega
  ·obtain rfl:k=ps.length:=by omega
   rw[show Dh (DL us) ps.length=DL us by rw[<-d,<-JD us];exact Vf _]at E;obtain⟨a2,c2,A,hT⟩:=(Aa E).texts;rw[JD,d]at A hT;simp only[ι]at A;obtain⟨rfl, -,rfl⟩:=A;have W:=Ab (Xn _ ps.length ps.length (DL us) wr hT (Aa V) l);clear hT E S;go_wp2_with (go_at_call 291;refine(Aa W).mono ?_;rintro e w2 ⟨rfl,P⟩;have v:=Ab (Ad (Aa R) P);clear P);go_ret;exact⟨rfl,Aa v⟩
def gT(a:Option Addr)(k c:Nat)(rs:List (List Nat))(o:Option Addr)(m u:Nat)(xs:List Nat)(w:η)(ht:Tab w)(h:VecsAt w a k rs)(j:Ay 1048576 rs)(v:RowAt w o m xs)(C:k<=100000)(B:m<=1048576)
  (i:¬firstI (reduceL (broughtL rs) xs)<0):
  Calls Tryz.prog 257 #[δ a k c,δ o m u] w fun e w'=>e=.returned (.tuple #[δ none 0 0,.bool false])/\β w.heap.size w w':=by
 have s:=Ab (KU a k c rs w ht h j C);have q:=Fg j;have A:=Kv j;have D:=h.1;have n:=Ab (fun(w1:η) (p:Option Addr) (c1:Nat) (d:β w.heap.size w w1) (E:VecsAt w1 p (broughtL rs).length (broughtL rs))=>Qu p _ c1 (broughtL rs) o m u xs w1 (ht.below d) E q (v.below d) (by omega) B);rw[decide_eq_false i]at n;clear h v i j;generalize keepL rs rs.length=I at*;generalize broughtL rs=H at*;go_enter func257,ntmps257;go_wp2_with fail;refine(Aa s).mono ?_;rintro e w1 ⟨K,J,vs,rfl,x,y,d⟩;obtain⟨p,c1,rfl,_⟩:=x.ints;obtain⟨z,c2,rfl,b⟩:=y.vecs;have f:=Ab (Aa n w1 z c2 d b);have r:=Ab d;clear x y d s n b;go_wp2_with fail;refine(Aa f).mono ?_;rintro e w2 ⟨rfl,g⟩;have l:=Ab (Ad (Aa r) g);clear g r f;go_wp2;go_ret2;exact⟨rfl,Aa l⟩
def fc(a:Option Addr)(n0 c:Nat)(rs:List (List Nat))(a':Option Addr)(m c':Nat)(xs:List Nat)(w:η)(ht:Tab w)(h:VecsAt w a n0 rs)(hf:Ay 1048576 rs)(h':RowAt w a' m xs)(hn:n0<=100000)(hm:m<=1048576)
  (a4:firstI (reduceL (broughtL rs) xs)<0):
  Calls Tryz.prog 257 #[δ a n0 c,δ a' m c'] w fun e w'=> ∃v,e=.returned (.tuple #[v,.bool true])/\AC w' w.heap.size v (exprL rs xs)/\β w.heap.size w w':=by
 have HX:=Ab (KU a n0 c rs w ht h hf hn);have cj:=Fg hf;have cz:=Kv hf;obtain rfl:n0=rs.length:=h.1.symm;have ac:=eA rs;have a3:=ed hf;have ak:=Ab (eU hf);have c4:=GL rs rs.length;have Y:=Ab (JW rs rs.length);have HY:=Ab (fun(w1:η) (a1:Option Addr) (c1:Nat) (hb:β w.heap.size w w1) (hv:VecsAt w1 a1 (broughtL rs).length (broughtL rs))=>Qu a1 _ c1 (broughtL rs) a' m c' xs w1 (ht.below hb) hv cj (h'.below hb) (by omega) hm);rw[decide_eq_true a4]at HY;have HZ:=Ab (fun(w1:η) (a1:Option Addr) (c1:Nat) (hb:β w.heap.size w w1) (hv:VecsAt w1 a1 (broughtL rs).length (broughtL rs))=>ft a1 _ c1 (broughtL rs) w1 (ht.below hb) hv cj (by omega) a3)
 have HE:Hid (exprL rs xs=chosenL (keepL rs rs.length) (fun i=>Ah (reduceL (broughtL ((BH rs (keepL rs rs.length) (CW (broughtL rs)) (sizeL (keepL rs rs.length).length) (keepL rs rs.length).length).take (keepL rs rs.length).length))
  (B9 (BA (sizeL (keepL rs rs.length).length)) xs (CW (broughtL rs)) (keepL rs rs.length).length)) ((keepL rs rs.length).length+i)) (keepL rs rs.length).length):=rfl
 generalize exprL rs xs=EX at*;clear a4 a3;have bn:=It (broughtL rs);generalize CW (broughtL rs)=fs at*;generalize broughtL rs=bb at*;generalize keepL rs rs.length=f at*;rw[ac]at bn;have bc:=Ab bn;obtain⟨n,aq⟩:∃n,f.length=n:=⟨_,rfl⟩;have c9:=Xv n;have au:=Xu n (by omega);obtain⟨s,av⟩:∃s,sizeL n=s:=⟨_,rfl⟩;have da:((2:Int)*(n:Int)+64-1)/64=(s:Int):=by rw[<-av];unfold sizeL;omega
 rw[av]at c9 au;rw[aq,av]at HE;rw[aq]at ac bc c4;rw[ac]at HY HZ;have o:=Ab aq;have bw:=Ab ac;clear av bn aq ac cz;go_enter func257,ntmps257;go_wp2_with fail;refine(Aa HX).mono ?_;rintro e w1 ⟨vk,vb,vs,rfl,hI,hV,hb⟩;obtain⟨a1,c1,rfl, -⟩:=hI.ints;obtain⟨a2,c2,rfl,S⟩:=hV.vecs;rw[Aa bw]at S;rw[Aa bw];rw[Aa o];have b9:=Ab (Aa HY w1 a2 c2 hb S);have HB:=Ab hb;have b0:=Ab hI;have b8:=Ab S;clear hI hV hb HX HY S;go_wp2_with fail;refine(Aa b9).mono ?_;rintro e w2 ⟨rfl,an⟩;have a5:=Ab (Ad (Aa HB) an);have b1:=Ab ((Aa b0).below an);have ca:=Ab (Aa HZ w2 a2 c2 (Aa a5) ((Aa b8).below an));clear an HB b9 b0 b8 HZ;go_wp2_with fail;refine(Aa ca).mono ?_;rintro e w3 ⟨vf,rfl,cc,bi⟩;obtain⟨af,cf,rfl,bo⟩:=cc.ints;rw[Aa bc]at bo;rw[Aa bc];have T:=Ab bo;have ah:=Ab (Ad (Aa a5) bi);have b2:=Ab ((Aa b1).below bi);clear bi a5 b1 ca cc bo;have bd:=Yx (n+1) s w3 (by omega) au;rw[show((n+1:Nat):Int)=(n:Int)+1 by simp]at bd;have bx:=Ab bd;have ck:IntsAt w3 a1 n f:=by
  obtain⟨_,_,e,hi⟩:=(Aa b2).ints;rw[Aa o]at e hi;simp only[ι,true_and]at e;rw[e.1];exact hi
 have al:=Ab ck;clear bd ck b2;go_wp2_with fail;refine(Aa bx).mono ?_;rintro e w4 ⟨rfl,V,bj⟩;have cm:=(Aa ah).size;obtain⟨P,am⟩:∃P,w3.heap.size=P:=⟨_,rfl⟩;rw[am]at V bj cm;rw[am];obtain⟨R,bh⟩:∃R,P+1=R:=⟨_,rfl⟩;rw[bh]at V;rw[bh];have E:=Ab am;rw[show ω (n+1) (BA s)=BH rs f fs s 0 by rw[jV,Aa o]]at V;have H0:=Ab (τ V bj);clear V bj am bh bx da;go_wp2;go_loopw [38] (fun i wr=> ∃k:Nat,k<=n/\i=υ .i64 k/\Hid (AK wr P P R s (n+1) (BH rs f fs s k)/\β P w3 wr)) (fun i _=>n-(intOf i).toNat)
 case atStart=>exact⟨0,ε _,rfl,H0⟩
 case round=>
  obtain⟨k,hk,rfl,HS⟩:=hrel;obtain⟨V,hB⟩:=Aa HS;clear H0 HS;have I:β w3.heap.size w3 wr:=by rw[Aa E];exact hB
  have bg:P<=wr.heap.size:=by have:=hB.size;rw[Aa E]at this;exact this
  have bp:(BH rs f fs s k).length=n+1:=by rw[OB,Aa o]
  by_cases ap:k<n
  ·have r:k<n+1:=by omega
   obtain⟨bk,ok,rfl,bm⟩:=(Aa al).at ap;have cu:=(I.cell (World.block_lt_of_cell? w3 _ (bm k ap))).trans (bm k ap);have a0:f.getD k 0<rs.length:=by
    refine Aa Y _ ?_;rw[U,α (show k<f.length by rw[Aa o];exact ap)];exact φ _
   have ce:(BH rs f fs s k).set k (By (B9 (BA s) (rs.getD (f.getD k 0) []) fs n) (n+k) true)=BH rs f fs s (k+1):=by
    have:=lu rs f fs s k (by rw[Aa o];omega);unfold Ja at this;rw[Aa o]at this;exact this
   have b4:=Ab ce;have ag:(BH rs f fs s k).getD k []=BA s:=by rw[OA _ _ _ _ _ _ (by rw[Aa o];omega),if_neg (by omega)]
   generalize f.getD k 0=pl at*;obtain⟨b,off,rfl,hc⟩:=(h.below (Aa ah)).at a0;obtain⟨ai,ci,z,N⟩:=hc pl a0;have c0:=(I.cell (World.block_lt_of_cell? w3 _ z)).trans z;have g:=(V.row r).2.1;have aa:β w3.heap.size w3 wr.drew:=I.drew;have cb:β P w3 wr.drew:=hB.drew;have cl:=(hf.getD pl).2
   have u:=Wu P P R s (n+1) k (BH rs f fs s k) ai (rs.getD pl []).length ci (rs.getD pl []) af n cf fs wr.drew (V.below ((Below.refl _ _).drew)) r (N.below aa)
    (N.lt.imp id fun hl ad e e2=>by have h1:=hl ad e;have h2:=γ e2;rw[Aa E]at h1;omega) ((Aa T).below aa)
    ((Aa T).lt.imp id fun hl ad e e2=>by have h1:=hl ad e;have h2:=γ e2;rw[Aa E]at h1;omega) (Aa ak) (by omega) au cl
   rw[ag]at u;generalize rs.getD pl []=y at*;obtain⟨po,J⟩:∃po,k*s=po:=⟨_,rfl⟩;rw[J]at u g;have Z:=Ab J;have H:=Ab u;have b3:=Ab bp;have aj:=Ab cb;have db:(pl:Int)<(rs.length:Int):=by omega
   have dc:(k:Int)<(n:Int)+1:=by omega
   clear u V hc bm z N ce ag hB I aa h h' T al HE ak Y bp J cb;go_wp2_with fail;refine wp_region_any (by kernel_rfl) ?_;change wpAny _ _ _ _ _ _ _ (World.drew _);refine wpAny_take (i:=0) (v:=?_) rfl (by kernel_rfl) (by kernel_rfl) (by kernel_rfl) (fun _ _ _ h=>h) (Or.inl ⟨by rfl,?f0⟩) ?_
   case f0=>(intro w;go_simp;try with_reducible rfl)
   refine wpAny_take (i:=1) (v:=?_) rfl (by kernel_rfl) (by kernel_rfl) (by kernel_rfl) (fun _ _ _ h=>h) (Or.inl ⟨by rfl,?f1⟩) ?_
   case f1=>(intro w;go_simp;try with_reducible rfl)
   refine wpAny_take (i:=2) (v:=?_) rfl (by kernel_rfl) (by kernel_rfl) (by kernel_rfl) (fun _ _ _ h=>h) (Or.inl ⟨by rfl,?f2⟩) ?_
   case f2=>(intro w;go_simp;try with_reducible rfl)
   refine wpAny_take (i:=4) (v:=?_) rfl (by kernel_rfl) (by kernel_rfl) (by kernel_rfl) (fun _ _ _ h=>h) (Or.inl ⟨by rfl,?f4⟩) ?_
   case f4=>(intro w;go_simp;try with_reducible rfl)
   refine wpAny_take (i:=5) (v:=?_) rfl (by kernel_rfl) (by kernel_rfl) (by kernel_rfl) (fun _ _ _ h=>h) (Or.inl ⟨by rfl,?f5⟩) ?_
   case f5=>(intro w;go_simp;try with_reducible rfl)
   refine wpAny_take (i:=6) (v:=?_) rfl (by kernel_rfl) (by kernel_rfl) (by kernel_rfl) (fun _ _ _ h=>h) (Or.inl ⟨by rfl,?f6⟩) ?_
   case f6=>(intro w;go_simp;try with_reducible rfl)
   refine wpAny_take (i:=8) (v:=?_) rfl (by kernel_rfl) (by kernel_rfl) (by kernel_rfl) (fun _ _ _ h=>h) (Or.inl ⟨by rfl,?f8⟩) ?_
   case f8=>(intro w;go_simp;try with_reducible rfl)
   refine wpAny_ready (rs:=[3,7]) (by kernel_rfl) (by simp) ?_;refine μ rfl (fun K D=>?r1) (μ rfl (fun K D=>?r2) ρ)
   case r1=>
    go_simp;refine D _ _ ?_;clear D K;refine wpAny_ready (rs:=[7]) (by kernel_rfl) (by simp) ?_;refine μ rfl (fun K D=>?_) ρ;go_simp;refine D _ _ ?_;clear D K;refine wpAny_ready (rs:=[9]) (by kernel_rfl) (by simp) ?_;refine μ rfl (fun K D=>?_) ρ;go_simp;refine(Aa H).mono ?_;rintro e w5 ⟨rfl,l,A⟩;have C:=(Aa aj).trans (CA A (show P<=wr.drew.heap.size from bg) (fun j hj=>by have:=γ hj;omega));have d:=(l.row r).2.1;obtain⟨x,O,bv,Q,B⟩:=N6 l r (Aa b3) (show n+k<64*s by omega);rw[Aa Z]at O Q B d;have hX:=Po P po s s (n+k) x w5 (by omega) (by omega) O bv Q;rw[show((n+k:Nat):Int)=(n:Int)+(k:Int) by simp]at hX;have HX:=Ab hX;rw[Aa b4]at B;have HN:=Ab (τ B (C.setCell (p:=⟨P,po+(n+k)/64,none⟩) (by exact ζ _) (υ .u64 ((setW x ((n+k)%64) true:Nat):Int))));clear hX O Q B C l A H aj;refine D _ _ ?_;clear D K;refine wpAny_done (by kernel_rfl) ?_ _;go_wp2_with fail;refine(Aa HX).mono ?_;rintro e w6 ⟨rfl,hw⟩;rw[<-hw]at HN;clear hw HX d;go_wp2;go_roundw
    case rel=>exact⟨k+1,by omega,by go_num,HN⟩
    case measure=>simp[intOf];omega
   case r2=>
    go_simp;refine D _ _ ?_;clear D K;refine wpAny_ready (rs:=[3]) (by kernel_rfl) (by simp) ?_;refine μ rfl (fun K D=>?_) ρ;go_simp;refine D _ _ ?_;clear D K;refine wpAny_ready (rs:=[9]) (by kernel_rfl) (by simp) ?_;refine μ rfl (fun K D=>?_) ρ;go_simp;refine(Aa H).mono ?_;rintro e w5 ⟨rfl,l,A⟩;have C:=(Aa aj).trans (CA A (show P<=wr.drew.heap.size from bg) (fun j hj=>by have:=γ hj;omega));have d:=(l.row r).2.1;obtain⟨x,O,bv,Q,B⟩:=N6 l r (Aa b3) (show n+k<64*s by omega);rw[Aa Z]at O Q B d;have hX:=Po P po s s (n+k) x w5 (by omega) (by omega) O bv Q;rw[show((n+k:Nat):Int)=(n:Int)+(k:Int) by simp]at hX;have HX:=Ab hX;rw[Aa b4]at B;have HN:=Ab (τ B (C.setCell (p:=⟨P,po+(n+k)/64,none⟩) (by exact ζ _) (υ .u64 ((setW x ((n+k)%64) true:Nat):Int))));clear hX O Q B C l A H aj;refine D _ _ ?_;clear D K;refine wpAny_done (by kernel_rfl) ?_ _;go_wp2_with fail;refine(Aa HX).mono ?_;rintro e w6 ⟨rfl,hw⟩;rw[<-hw]at HN;clear hw HX d;go_wp2;go_roundw
    case rel=>exact⟨k+1,by omega,by go_num,HN⟩
    case measure=>simp[intOf];omega
  ·obtain rfl:k=n:=by omega
   have r:k<k+1:=by omega
   have ag:(BH rs f fs s k).getD k []=BA s:=by rw[OA _ _ _ _ _ _ (by rw[Aa o];omega),if_neg (by omega)]
   have g:=(V.row r).2.1;have h3:=h'.below (Aa ah)
   have u:=Wu P P R s (k+1) k (BH rs f fs s k) a' m c' xs af k cf fs wr V r (h3.below I)
    (h3.lt.imp id fun hl ad e e2=>by have h1:=hl ad e;have h2:=γ e2;rw[Aa E]at h1;omega) ((Aa T).below I)
    ((Aa T).lt.imp id fun hl ad e e2=>by have h1:=hl ad e;have h2:=γ e2;rw[Aa E]at h1;omega) (Aa ak) (by omega) au hm
   rw[ag]at u;have cq:=I1 (Iv s) xs fs k;have bs:(B9 (BA s) xs fs k).length=s:=by rw[IB,Gl]
   have ae:=lr rs f fs s k k (B9 (BA s) xs fs k) cq bs 1048576 (by omega);have bq:((BH rs f fs s k).set k (B9 (BA s) xs fs k)).take k=(BH rs f fs s k).take k:=by
    have:=Tg rs f fs s (B9 (BA s) xs fs k);rw[Aa o]at this;exact this
   have cp:((BH rs f fs s k).set k (B9 (BA s) xs fs k)).getD k []=B9 (BA s) xs fs k:=by rw[OJ _ _ _ _ (by omega),if_pos rfl]
   obtain⟨po,J⟩:∃po,k*s=po:=⟨_,rfl⟩;rw[bq]at ae;generalize B9 (BA s) xs fs k=q at*;rw[J]at u g;have Z:=Ab J;have cy:=Ab bs;have H:=Ab u;have HB:=Ab hB;have a9:=Ab (((Aa ah).trans ((hB.mono cm))));have b5:=Ab bq;have cx:=Ab cp;have df:=nP R 0 (k+1) (k+1) k (by omega);clear u V ag I h h' h3 ak Y T hB bq cp bp J bs;go_wp2_with fail;refine(Aa H).mono ?_;rintro e w5 ⟨rfl,l,A⟩;have C:β P w3 w5:=(Aa HB).trans (CA A bg (fun j hj=>by have:=γ hj;omega));have ab:β w.heap.size w w5:=(Aa a9).trans (CA A (Aa a9).size (fun j hj=>by have:=γ hj;omega));have bu:=l.vecs (k:=k) (by omega);rw[Aa b5]at bu;have b7:=Ab (KU (some ⟨R,0,none⟩) k (k+1) ((BH rs f fs s k).take k) w5 (ht.below ab) bu ae (by omega));have az:IntsAt w5 a1 k f:=(Aa al).below (by rw[Aa E];exact C);have ax:=Ab az;have bz:=Ab l;have aw:=Ab ab;have cn:=Fg ae;have dd:=Kv ae;have de:((BH rs f fs s k).take k).length<=k:=List.length_take_le _ _;generalize (BH rs f fs s k).take k=RL at*;generalize (BH rs f fs s k).set k q=RN at*;clear C ab bu az l A H HB a9 al b5 g ae;go_wp2_with fail;refine(Aa b7).mono ?_;rintro e w6 ⟨di,dh,dj,rfl,cd,cg,ao⟩;obtain⟨a6,c6,rfl, -⟩:=cd.ints;obtain⟨a7,c7,rfl,ct⟩:=cg.vecs;obtain⟨bt,c3, -⟩:=((Aa bz).below ao).row r;rw[Aa cx,Aa Z]at bt;rw[Aa Z]at c3;have W:=Ab (Ad (Aa aw) ao);have ay:=Ab ((Aa ax).below ao);have b6:=Ab (N7 a7 _ c7 (broughtL RL) (some ⟨P,po,none⟩) s s q w6 (ht.below (Aa W)) ct cn bt (by omega) (by omega));have c5:=EU cn cq (by rw[Aa cy];omega:q.length<=1048576);clear cd cg ct bt ao b7 bz ax aw;generalize keepL RL RL.length=dg at*;generalize broughtL RL=br at*;go_wp2_with fail;refine(Aa b6).mono ?_;rintro e w7 ⟨v7,rfl,co,bl⟩;obtain⟨ar,cr,rfl,cs⟩:=co.row;have ba:=Ab (iJ a1 k c1 f ar _ cr (reduceL br q) w7 ((Aa ay).below bl) cs (by omega) c5.2);have X:=Ab (Ad (Aa W) bl);clear co cs bl W ay b6;rw[<-Aa HE]at ba;generalize reduceL br q=rq at*;go_wp2_with fail;refine(Aa ba).mono ?_;rintro e w8 ⟨v8,rfl,bf,ch⟩;obtain⟨a8,c8,rfl, -⟩:=bf.ints
   have cw:=Ab (bf.mono (Aa X).size);have cv:=Ab (Ad (Aa X) ch);clear bf ch X ba;go_wp2;go_ret2;exact⟨_,rfl,Aa cw,Aa cv⟩
def fa(a:Option Addr)(n c:Nat)(rs:List (List Nat))(d:Option Addr)(m f:Nat)(xs:List Nat)(w:η)(ht:Tab w)(h:VecsAt w a n rs)(k:Ay 1048576 rs)(j:RowAt w d m xs)(o:n<=100000)(l:m<=1048576):
  Calls Tryz.prog 257 #[δ a n c,δ d m f] w fun e w'=> ∃v,e=.returned (.tuple #[v,.bool (!Fp rs xs)])/\AC w' w.heap.size v (exL rs xs)/\β w.heap.size w w':=by
 by_cases b:firstI (reduceL (broughtL rs) xs)<0
 ·have g:exL rs xs=exprL rs xs:=by unfold exL;rw[if_pos b]
  have i:Fp rs xs=false:=by unfold Fp;rw[decide_eq_true b];rfl
  rw[g,i];exact fc a n c rs d m f xs w ht h k j o l b
 ·have g:exL rs xs=[]:=by unfold exL;rw[if_neg b]
  have i:Fp rs xs=true:=by unfold Fp;rw[decide_eq_false b];rfl
  rw[g,i];refine(gT a n c rs d m f xs w ht h k j o l b).mono ?_;rintro e w' ⟨rfl,p⟩;exact⟨_,rfl,AC.nil _ _,p⟩
def TP(a:List RV)(i:Nat):(a.map core).getD i zC=core (a.getD i .dflt):=by
 rw[U,ξ,U];cases a[i]? <;>rfl
def Oc(a:List RV):vecsL a=vecsC (a.map core):=by
 unfold vecsL vecsC;rw[χ];rfl
def pU(a:List RV)(ps:List Nat):(atR a ps).map core=Lu (a.map core) ps:=by
 unfold atR Lu;rw[χ];exact σ fun i _=>(TP a i).symm
def ex(a:List RV)(ps:List Nat):DL (atR a ps)=Gu (a.map core) ps:=by
 unfold DL atR Gu;rw[χ];refine σ fun i _=>?_;rw[TP];rfl
def Ew(a:List RV):List RV:=atR a (keepL (vecsL a) a.length)
def Tf(a:List RV):(Ew a).map core=Cw (a.map core):=by
 unfold Ew Cw;rw[pU,Oc,π]
def TW(a:List RV):(Ew a).length=(keepL (vecsL a) a.length).length:=by simp[Ew,atR]
def qB(a:List RV):(Ew a).length<=a.length:=by rw[TW];exact GL _ _
def WZ(a:List RV):∀i∈keepL (vecsL a) a.length,i<a.length:=JW _ _
def mO(a:Option Addr)(n c:Nat)(b:List RV)(w:η)(ht:Tab w)(h:Aj w a n b)(B:Ae w b)(J:Af b)(P:n<=100000):
  Calls Tryz.prog 256 #[δ a n c] w fun e w'=> ∃i c1,e=.returned (δ i (Ew b).length c1)/\Ak w' w.heap.size (δ i (Ew b).length c1) (Ew b)/\β w.heap.size w w':=by
 obtain rfl:=h.1;have H:=Ab (OK a b.length c b w h (by omega));have E:=Ab (fun(w1:η) (i:Option Addr) (c1:Nat) (z:β w.heap.size w w1) (Q:VecsAt w1 i b.length (vecsL b))=>Vs i b.length c1 (vecsL b) w1 (ht.below z) Q (Qt B J) P);have D:=Ab (fun(w1:η) (I:Option Addr) (C O:Nat) (z:β w.heap.size w w1) (hp:IntsAt w1 I C (keepL (vecsL b) b.length)) (A:C<=1048576)=>QL a b.length c b I C O (keepL (vecsL b) b.length) w1 (h.below z) hp (WZ b) (by omega) A);have x:=Ab (GL (vecsL b) b.length);have K:=Ab B;clear h B J ht;go_enter func256,ntmps256;go_wp2_with fail;refine(Aa H).mono ?_;rintro e w1 ⟨R,rfl,r,g⟩;obtain⟨i,c1,rfl,u⟩:=r.vecs ((Aa K).below g);have d:=Aa E w1 i c1 g u;rw[KR]at d;have d:=Ab d;have l:=Ab g;clear r g u H E;go_wp2_with fail;refine(Aa d).mono ?_;rintro e w2 ⟨S,rfl,s,o⟩;obtain⟨N,c2,rfl,q⟩:=s.ints;have f:=Ab (Ad (Aa l) o);have k:=Ab (Aa D w2 N _ c2 (Aa f) q (by have:=Aa x;omega));clear s o q d D l;go_wp2_with fail;refine(Aa k).mono ?_;rintro e w3 ⟨v3,rfl,j,p⟩;obtain⟨a3,c3,rfl⟩:=j.shape;have y:=Ab (j.mono (Aa f).size);have v:=Ab (Ad (Aa f) p);clear j p k f;go_wp2;go_ret;exact⟨a3,c3,rfl,Aa y,Aa v⟩
def aG(rs:List (List Nat))(xs:List Nat):(∀i∈exL rs xs,i<rs.length)/\(exL rs xs).length<=rs.length:=by
 have a:=GL rs rs.length;unfold exL;split
 ·unfold exprL
  exact⟨Uf (ζ _),Nat.le_trans (Ol _ _ _) a⟩
 ·exact⟨(fun i b=>by cases b),ε _⟩
def Nz(w w':η)(L:List (List Nat×ByteArray))(a:Option Addr)(b c1:Nat)(us:List RV):Prop:=
 Ak w' w.heap.size (δ a b c1) us/\Ae w' us/\Af us/\us.length<=1000/\us.map core=L/\β w.heap.size w w'
def gv(K:Nat)(us:List RV)(b:Nat):st (Ct (DL (atR (Ew us) (exL (vecsL (Ew us)) (unitL (K:Int) (b:Int))))))=blockC (K:Int) (us.map core) b:=by
 unfold blockC;rw[ex,Tf,Oc,Tf]
def dz(k:Int)(a:Option Addr)(n c:Nat)(L:List (List Nat×ByteArray))(w:η)(ht:Tab w)
  (hw:∀w1,β w.heap.size w w1->Calls Tryz.prog 215 #[υ .i64 k,δ a n c] w1 fun e w'=> ∃V m1 c1 us,e=.returned (δ V m1 c1)/\Nz w1 w' L V m1 c1 us):
  Calls Tryz.prog 216 #[.agg #[υ .i64 k,.func (.func 215) #[] #[]],δ a n c] w fun e w'=> ∃V m1 c1,e=.returned (.tuple #[δ V m1 c1,.bool (Ec k L)])/\Ar w' w.heap.size (δ V m1 c1) (solveC k L)/\β w.heap.size w w':=by
 have Z:β w.heap.size w (w.alloc (.cells #[υ .i64 k,.func (.func 215) #[] #[]] 309)):=(Below.refl _ _).alloc (ζ _) _;have hx:Bq (w.alloc (.cells #[υ .i64 k,.func (.func 215) #[] #[]] 309)) w.heap.size (υ .i64 k) (.func (.func 215) #[] #[]):=by constructor<;>simp
 have ak:=Ab (fun w2 (d:β (w.alloc (.cells #[υ .i64 k,.func (.func 215) #[] #[]] 309)).heap.size (w.alloc (.cells #[υ .i64 k,.func (.func 215) #[] #[]] 309)) w2)=>hx.below d);have J:=Ab Z;have HW:=Ab (hw _ Z);have HZ:=Ab (Hr k);have au:=Ab (fun(w1:η) (d:β w.heap.size w w1)=>ht.below d);clear hw Z hx ht;by_cases hz:sizeOfK k=0
 ·have f:Ec k L=false:=by unfold Ec;rw[hz];rfl
  have g:solveC k L=[]:=by unfold solveC;rw[f];rfl
  rw[hz]at HZ;go_enter func216,ntmps216;go_wp2_with (go_at_call 176;refine(Aa HZ _).mono ?_;rintro e w' ⟨rfl,x⟩;obtain rfl:=x.symm;clear x);go_ret2;rw[f,g];exact⟨none,0,0,rfl,Ar.nil _ _,Aa J⟩
 have bm:=Ab (show 0<sizeOfK k by omega);obtain⟨bv,bq⟩:=(DV (k:=k) (by omega)).2;obtain⟨K,rfl⟩:∃K:Nat,k=(K:Int):=⟨k.toNat,(Int.toNat_of_nonneg (by omega)).symm⟩;obtain⟨z,bf⟩:∃z,sizeOfK (K:Int)=z:=⟨_,rfl⟩;rw[bf]at HZ hz;have bu:((z:Int)==0)=false:=by rw[beq_eq_false_iff_ne];omega
 clear bf;go_enter func216,ntmps216;go_wp2_with fail;refine(Aa HZ _).mono ?_;rintro e w' ⟨rfl,x⟩;obtain rfl:=x.symm;clear x HZ;go_wp2_with fail;refine(Aa HW).mono ?_;rintro e w1 ⟨V,m1,c1,us,rfl,ae,u,af,bx,hL,aa⟩;have X:=Ad (Aa J) aa;obtain⟨h,l⟩:=Aa ak w1 aa;have ao:=Ab (mO V m1 c1 us w1 (Aa au w1 X) (ae.at' u).1 u af (by have:=(ae.at' u).2.1;omega));have R:=Ab (fun(w2:η) (d:β w1.heap.size w1 w2)=>(u.below d).atR (WZ us));have S:=Ab (Uq af (keepL (vecsL us) us.length));have aq:=Ab (qB us);have ag:=Ab X;have C:=Ab (fun(w2:η) (d:β w1.heap.size w1 w2)=>(Bq.below ⟨h,l⟩ d:Bq w2 w.heap.size (υ .i64 (K:Int)) (.func (.func 215) #[] #[])));have I:Ec (K:Int) L=decide ((K:Int)<=((Ew us).length:Int)):=by
  unfold Ec;rw[decide_eq_true (Aa bm),Bool.true_and,TW,Oc,hL,<-hL,π]
 have r:=Ab I;have av:=Ab (fun b=>gv K us b);rw[hL]at av;change Hid (∀(w2:η),β w1.heap.size w1 w2->Ae w2 (Ew us))at R;change Hid (Af (Ew us))at S;clear HW ae u af hL aa X I ak J;generalize Ew us=ks at*;go_wp2_with fail;refine(Aa ao).mono ?_;rintro e w2 ⟨a2,c2,rfl,a8,A⟩;obtain⟨h,l⟩:=Aa C w2 A;have ad:=Aa R w2 A;have T:=Ab (a8.at' ad).1;have Q:=Ab ad;have N:=Ab (Ad (Aa ag) A);have D:=Ab (fun(w3:η) (d:β w2.heap.size w2 w3)=>(Bq.below ⟨h,l⟩ d:Bq w3 w.heap.size (υ .i64 (K:Int)) (.func (.func 215) #[] #[])));clear ao a8 ad A R ag C;by_cases b0:ks.length<K
 ·have f:Ec (K:Int) L=false:=by rw[Aa r,decide_eq_false_iff_not];omega
  have g:solveC (K:Int) L=[]:=by unfold solveC;rw[f];rfl
  have hd:decide ((ks.length:Int)<(K:Int))=true:=by rw[decide_eq_true_iff];omega
  go_wp2;go_ret2;rw[f,g];exact⟨none,0,0,rfl,Ar.nil _ _,Aa N⟩
 have f:Ec (K:Int) L=true:=by rw[Aa r,decide_eq_true_iff];omega
 have g:solveC (K:Int) L=(Γ K).map (blockC (K:Int) L):=by unfold solveC;rw[f,if_pos rfl,θ]
 have hd:decide ((ks.length:Int)<(K:Int))=false:=by rw[decide_eq_false_iff_not];omega
 have bz:ks.length<=1000:=by have:=Aa aq;omega
 have HV:=Ab (OK a2 ks.length c2 ks w2 (Aa T) (by omega));clear r aq;go_wp2_with fail;refine(Aa HV).mono ?_;rintro e w3 ⟨v3,rfl,a9,o⟩;obtain⟨a3,c3,rfl,bd⟩:=a9.vecs ((Aa Q).below o);obtain⟨h,l⟩:=Aa D w3 o;have bn:=Ab bd;have ap:=Ab ((Aa Q).below o);have bi:=Ab ((Aa T).below o);have O:=Ab (Ad (Aa N) o);have bh:=Ab (Qt (Aa ap) (Aa S));have al:=Ab (fun(B:η) (d:β w3.heap.size w3 B)=>(Bq.below ⟨h,l⟩ d:Bq B w.heap.size (υ .i64 (K:Int)) (.func (.func 215) #[] #[])));have b1:=Ov K (by omega);obtain⟨q,y⟩:∃q,q=(Γ K).map (blockC (K:Int) L):=⟨_,rfl⟩;have s:Hid (q.length=K):=Ab (by rw[y];simp);have bj:Hid (∀b,b<K->q.getD b ByteArray.empty=blockC (K:Int) L b):=Ab (fun b d=>by rw[y,U,ξ,List.getElem?_range d];rfl);rw[<-y]at g;have r:=Ab f;have bl:=Ab g;clear f g;have HM:=Ab (KJ w3 K (by omega) (Dh q 0) (by rw[TJ,Aa s]));have aj:Hid (β w3.heap.size w3 (w3.alloc (.cells (madeCells #[ς ByteArray.empty] K) 9))):=Ab ((Below.refl _ _).alloc (ζ _) _);clear HV a9 o bd Q T N D y;go_wp2;go_loopw [35] (fun i wr=> ∃j:Nat,j<=K/\i=υ .i64 j/\Hid (Ar wr w3.heap.size (δ (some ⟨w3.heap.size,0,none⟩) K K) (Dh q j))/\Hid (β w3.heap.size w3 wr)) (fun i _=>K-(intOf i).toNat)
 case atStart=>exact⟨0,ε _,rfl,HM,aj⟩
 case round=>
  obtain⟨j,hj,rfl,HI,HB⟩:=hrel;clear HM aj h l;by_cases a7:j<K
  ·have W:=Aa HB
   obtain⟨h,l⟩:=Aa al wr W;have H:(j:Int)<(K:Int):=by omega
   have HU:=Ab (We (K:Int) (j:Int) wr (by omega));have an:=Ab (fun(B:η) (a4:Option Addr) (m4 c4:Nat) (d:β wr.heap.size wr B) (h4:RowAt B a4 m4 (unitL (K:Int) (j:Int))) (br:m4<=1048576)=>fa a3 ks.length c3 (vecsL ks) a4 m4 c4 (unitL (K:Int) (j:Int)) B (Aa au B (Ad (Aa O) (Ad W d))) ((Aa bn).below (Ad W d)) (Aa bh) h4 (by omega) br);have ac:=aG (vecsL ks) (unitL (K:Int) (j:Int));rw[KR]at ac;have P:=Ab (fun(w5:η) (a5:Option Addr) (m5 c5:Nat) (d:β wr.heap.size wr w5) (h5:IntsAt w5 a5 m5 (exL (vecsL ks) (unitL (K:Int) (j:Int))))=>pA a2 ks.length c2 ks a5 m5 c5 _ w5 ((Aa bi).below (Ad W d)) ((Aa ap).below (Ad W d)) (Aa S) h5 ac.1 (by omega) (by have:=h5.1;omega));rw[Aa av j]at P;have bs:(unitL (K:Int) (j:Int)).length<=1048576:=by rw[JL H];have:=DU (K:Int);omega
   have hS:=TI q j (by have:=Aa s;omega);rw[Aa bj j a7]at hS;have bp:(Dh q j).length=K:=by rw[Sf _ _ (by have:=Aa s;omega),Aa s]
   have ar:=Ab (fun(w6:η) (d:β wr.heap.size wr w6)=>by
    have hI:=(Aa HI).below d;obtain⟨g2,bt,e2,_,_,az,a0⟩:=hI.at (by omega);simp only[ι,Β,Addr.mk.injEq,and_true]at e2;obtain⟨rfl, -, -⟩:=e2;have v:=hI.stored j (blockC (K:Int) L j);rw[hS]at v;exact τ (az j (by omega)) (τ (a0 j) (τ v ((Ad W d).setCell (p:=⟨w3.heap.size,j,none⟩) (ζ _) (ς (blockC (K:Int) L j))))))
   clear W ac hS bp HI;generalize (Dh q j).getD j ByteArray.empty=zz at*;generalize blockC (K:Int) L j=TX at*;generalize exL (vecsL ks) (unitL (K:Int) (j:Int))=PS at*;generalize unitL (K:Int) (j:Int)=UU at*;go_wp2_with fail;refine(Aa HU).mono ?_;rintro e B ⟨v4,rfl,ba,ab⟩;obtain⟨a4,c4,rfl,bc⟩:=ba.row;have E:=Ab (Aa an B a4 _ c4 ab bc bs);have ah:=Ab ab;clear ba ab bc HU an;go_wp2_with fail;refine(Aa E).mono ?_;rintro e w5 ⟨v5,rfl,bb,ax⟩;obtain⟨a5,c5,rfl,a6⟩:=bb.ints;have Y:=Ad (Aa ah) ax;have am:=Ab (Aa P w5 a5 _ c5 Y a6);have ai:=Ab Y;clear bb ax a6 Y E P ah;go_wp2_with fail;refine(Aa am).mono ?_;rintro e w6 ⟨rfl,ay⟩;obtain⟨bo,bw,v,aw⟩:=Aa ar w6 (Ad (Aa ai) ay);have HS:=Ab v;have bg:=Ab aw;clear ay v aw ar am ai;go_wp2;go_roundw
   case rel=>exact⟨j+1,by omega,by go_num,HS,bg⟩
   case measure=>simp[intOf];omega
  ·obtain rfl:j=K:=by omega
   have H:¬(j:Int)<(j:Int):=by omega
   rw[show Dh q j=q by have:=Vf q;rwa[Aa s]at this]at HI;go_wp2;go_ret2;rw[Aa r,Aa bl];exact⟨_,_,_,rfl,(Aa HI).mono (Aa O).size,Ad (Aa O) (Aa HB)⟩
end Go.Proofs.YtfpmnekaockodaaGreatDoor
