/- Laws for the proof. -/
import Derived.Test.YtfpmnekaockodaaGreatDoorU12
import Derived.Test.YtfpmnekaockodaaGreatDoorChecked
import Derived.Conc.LoneSelect
import Derived.Conc.LoneSelectN
set_option linter.all false
open Go.Proofs.Tryz
open Go.IntKind renaming i64->U,wrap_i64->ρ
open Go.Value renaming int->α,string->η,bool->κ,pointer->ξ,slice->Γ
open Go.Proofs.Tryz renaming prog->β
open Go.Ending renaming returned->γ
open Go renaming World->δ,Calls->θ
open List renaming getD_eq_getElem?_getD->ε,getElem?_eq_getElem->ζ,size_toArray->ι,length_cons->ν,getElem?_take_of_lt->π,append_toArray->ς,push_toArray->σ,cons_append->τ,take_of_length_le->υ,length_nil->φ,nil_append->χ
open Option renaming some->μ,none->ω
open Nat renaming le_refl->ο,zero_le->ψ,reduceAdd->Α,reduceSub->Β
namespace Go.Proofs.YtfpmnekaockodaaGreatDoor
open Go.RowKit Go.Sort Go.Conc
set_option maxRecDepth 4000
set_option maxHeartbeats 8000000
def kL(xs:List Int)(k:Nat)(b:k<xs.length):xs.take (k+1)=xs.take k++[xs.getD k 0]:=by
 rw[List.take_succ_eq_append_getElem b];simp[ε,ζ b]
def jD(a:Option Addr)(n c:Nat)(xs:List Int)(x:Int)(w:δ)(h:IntzAt w a n xs)(E:n<=1048576):
  θ β 104 #[Γ a n c,.int U x] w fun e w'=> ∃r:Int,e=γ (.int U r)/\decide (0<=r)=decide (x∈xs)/\w'=w:=by
 obtain rfl:=h.1;have C:=Ab h;clear h;go_enter func104,ntmps104;go_wp2;go_loop [8] (fun i=> ∃k:Nat,k<=xs.length/\i=.int U k/\Hid (x∉xs.take k)) (fun i=>xs.length-(intOf i).toNat)
 case atStart=>exact⟨0,ψ _,rfl,Ab (by rw[List.take_zero];exact List.not_mem_nil)⟩
 case round=>
  obtain⟨k,D,rfl,j⟩:=hrel;by_cases d:k<xs.length
  ·obtain⟨b,off,rfl,f⟩:=(Aa C).at d
   have l:=f k d;have u:(k:Int)<(xs.length:Int):=by omega
   have B:=Ab (kL xs k d);have A:=Ab (show xs.getD k 0∈xs from by rw[ε,ζ d];exact List.getElem_mem d);clear f;generalize xs.getD k 0=y at*;by_cases q:x=y
   ·subst q
    go_wp2;go_ret;exact⟨_,rfl,⟨fun _=>Aa A,fun _=>by omega⟩,rfl⟩
   ·go_wp2
    go_round
    case rel=>exact⟨k+1,by omega,by go_num,Ab (by rw[Aa B,List.mem_append,List.mem_singleton];exact fun h=>h.elim (Aa j) q)⟩
    case measure=>simp[intOf];omega
  ·have p:xs.take k=xs:=υ (by omega)
   rw[p]at j;go_wp2;go_ret;exact⟨_,rfl,⟨fun h=>absurd h (by decide),fun h=>absurd h (Aa j)⟩,rfl⟩
def RJ(a:Option Addr)(n c:Nat)(xs:List Int)(x:Int)(w:δ)(h:IntzAt w a n xs)(f:n<=1048576):
  θ β 75 #[Γ a n c,.int U x] w fun e w'=>e=γ (κ (decide (x∈xs)))/\w'=w:=by
 have d:=Ab (jD a n c xs x w h f);clear h;go_enter func75,ntmps75;go_wp2_with (go_at_call 104;refine(Aa d).mono ?_;rintro e w1 ⟨r,rfl,i,b⟩;obtain rfl:=b.symm;clear b d);go_ret;exact⟨rfl,rfl⟩
variable {xs:List Int}
def Fj(n l h:Int)(w:δ)(b:l<=n/\n<=h):θ β 41 #[.int U n,.int U l,.int U h] w fun e w'=>e=γ (κ true)/\w'=w:=by
 obtain⟨d,f⟩:=b;go_enter func41,ntmps41;go_wp2;go_ret;exact⟨rfl,rfl⟩
def GU(n l h:Int)(w:δ)(b:¬(l<=n/\n<=h)):θ β 41 #[.int U n,.int U l,.int U h] w fun e w'=>e=γ (κ false)/\w'=w:=by
 by_cases d:l<=n
 ·have f:¬n<=h:=fun e=>b ⟨d,e⟩
  clear b;go_enter func41,ntmps41;go_wp2;go_ret;exact⟨rfl,rfl⟩
 ·clear b
  go_enter func41,ntmps41;go_wp2;go_ret;exact⟨rfl,rfl⟩
def ie(k:Int)(w:δ):θ β 42 #[.int U k] w fun e w'=>((e=γ (κ true)/\(1<=k/\k<=3))\/(e=γ (κ false)/\¬(1<=k/\k<=3)))/\w'=w:=by
 have b:k=1\/k=2\/k=3\/(k≠1/\k≠2/\k≠3):=by omega
 rcases b with rfl|rfl|rfl|⟨d,f,h⟩
 ·go_enter func42,ntmps42
  go_wp2;go_ret;exact⟨.inl ⟨rfl,by decide⟩,rfl⟩
 ·go_enter func42,ntmps42
  go_wp2;go_ret;exact⟨.inl ⟨rfl,by decide⟩,rfl⟩
 ·go_enter func42,ntmps42
  go_wp2;go_ret;exact⟨.inl ⟨rfl,by decide⟩,rfl⟩
 ·have i:¬(1<=k/\k<=3):=by omega
  have l:(k==1)=false:=beq_eq_false_iff_ne.2 d;have n:(k==2)=false:=beq_eq_false_iff_ne.2 f;have p:(k==3)=false:=beq_eq_false_iff_ne.2 h;have j:=Ab i;clear d f h i;go_enter func42,ntmps42;go_wp2;go_ret;exact⟨.inr ⟨rfl,Aa j⟩,rfl⟩
def EI(xs:List Int)(k:Nat):Nat->Nat
 |0=>0
 |m+1=>EI xs k m+if∃j,j<k/\xs.getD j 0=(m:Int)then 1 else 0
def bT(xs:List Int)(k m:Nat):EI xs k m<=m:=by
 induction m with
 |zero=>exact ο _
 |succ m b=>unfold EI;split<;>omega
def pq(xs:List Int)(k m i:Nat)(d:i<m)(h:¬∃j,j<k/\xs.getD j 0=(i:Int)):EI xs k m+1<=m:=by
 induction m with
 |zero=>omega
 |succ m b=>
  unfold EI;by_cases e:i=m
  ·subst e
   rw[if_neg h];have:=bT xs k i;omega
  ·have:=b (by omega)
   split<;>omega
def pr(xs:List Int)(k m:Nat)(h:¬∃v:Nat,v<m/\xs.getD k 0=(v:Int)):EI xs (k+1) m=EI xs k m:=by
 induction m with
 |zero=>rfl
 |succ m f=>
  unfold EI;rw[f fun⟨v,d,b⟩=>h ⟨v,by omega,b⟩];have e:(∃j,j<k+1/\xs.getD j 0=(m:Int))↔∃j,j<k/\xs.getD j 0=(m:Int):=by
   refine⟨fun⟨j,d,b⟩=>⟨j,?_,b⟩,fun⟨j,d,b⟩=>⟨j,by omega,b⟩⟩;by_cases q:j=k
   ·subst q;exact absurd ⟨m,Nat.lt_succ_self m,b⟩ h
   ·omega
  simp only[e]
def rm(xs:List Int)(k m x:Nat)(l:x<m)(d:xs.getD k 0=(x:Int))(h:¬∃j,j<k/\xs.getD j 0=(x:Int)):EI xs (k+1) m=EI xs k m+1:=by
 induction m with
 |zero=>omega
 |succ m i=>
  unfold EI;by_cases e:x=m
  ·subst e
   rw[pr xs k x fun⟨v,f,b⟩=>by rw[d]at b;omega,if_pos ⟨k,Nat.lt_succ_self k,d⟩,if_neg h]
  ·rw[i (by omega)]
   have q:(∃j,j<k+1/\xs.getD j 0=(m:Int))↔∃j,j<k/\xs.getD j 0=(m:Int):=by
    refine⟨fun⟨j,f,b⟩=>⟨j,?_,b⟩,fun⟨j,f,b⟩=>⟨j,by omega,b⟩⟩;by_cases r:j=k
    ·subst r;rw[d]at b;omega
    ·omega
   simp only[q];omega
def WO{id n k:Nat}(i:id<n)(h:∀j,j<k->(0<=xs.getD j 0/\xs.getD j 0<=(n:Int)-1)/\xs.getD j 0≠(id:Int)/\∀q,q<j->xs.getD q 0≠xs.getD j 0):k<n:=by
 have p:∀q,q<=k->EI xs q n=q:=by
  intro q
  induction q with
  |zero=>
   intro _;have:∀m,EI xs 0 m=0:=by
    intro m
    induction m with
    |zero=>rfl
    |succ m l=>unfold EI;rw[l,if_neg fun⟨j,e,_⟩=>by omega]
   exact this n
  |succ q l=>
   intro y;obtain⟨⟨a,b⟩,_,d⟩:=h q (by omega);obtain⟨x,u⟩:∃x:Nat,xs.getD q 0=(x:Int):=⟨(xs.getD q 0).toNat,by omega⟩;rw[rm xs q n x (by omega) u fun⟨j,e,f⟩=>d j e (by rw[f,u]),l (by omega)]
 have:=pq xs k n id i fun⟨j,e,f⟩=>(h j e).2.1 f;have:=p k (ο _);omega
def Su:Tryz.prog.underlying 27=μ (.slice (Tryz.prog.elem 27)):=by kernel_rfl
def fZ:Tryz.prog.elem 27=3:=by kernel_rfl
def lY(a:Option Addr)(n c q:Nat)(d:q<=c)(w:δ):
  (Instr.sliceAt 27 (Γ a n c) none (μ (.int U (q:Int))) none).run β w=.ok (Γ a q c) w:=by
 have b:∀w:δ,(sizeOf 3).run β w=.ok 1 w:=fun w=>by kernel_rfl
 rw[run_sliceAt_slice _ _ _ _ _ _ Su,run_slice_h _ _ _ _ _ Su _ _ (by omega) (by omega),fZ,b];cases a<;>simp[Result.andThen,sliced,Addr.add]
def IntzAt.take{w:δ}{a:Option Addr}{n:Nat}(h:IntzAt w a n xs){k:Nat}(j:k<=n):IntzAt w a k (xs.take k):=by
 refine⟨by rw[List.length_take,h.1];omega,?_⟩;rcases h.2 with f|⟨b,off,rfl,d⟩
 ·left;omega
 ·refine .inr ⟨b,off,rfl,fun i e=>?_⟩
  rw[d i (by omega),ε,ε,π e]
def lR{k:Nat}(e:k<=xs.length)(x:Int):x∈xs.take k↔∃j,j<k/\xs.getD j 0=x:=by
 rw[List.mem_iff_getElem?];constructor
 ·rintro⟨j,b⟩
  have d:=(List.getElem?_eq_some_iff.1 b).1;rw[List.length_take]at d;refine⟨j,by omega,?_⟩;rw[π (by omega)]at b;rw[ε,b];rfl
 ·rintro⟨j,b,rfl⟩
  refine⟨j,?_⟩;rw[π b,ζ (by omega),ε,ζ (by omega)];rfl
def sA(a:Option Addr)(n c:Nat)(xs:List Int)(id N:Nat)(w:δ)(h:IntzAt w a n xs)(hn:n<=9223372036854775807)(hc:n<=c)(hN:1<=N/\N<=8)(K:id<N):
  θ β 43 #[Γ a n c,.int U (id:Int),.int U (N:Int)] w fun e w'=>((e=γ (κ true)/\Bw xs id N)\/(e=γ (κ false)/\¬Bw xs id N))/\w'=w:=by
 obtain rfl:=h.1;have W:IntKind.i64.wrap ((N:Int)-1)=(N:Int)-1:=by rw[ρ];omega
 have H:=Ab h;clear h;go_enter func43,ntmps43;go_wp2;go_loop [11] (fun i=> ∃k:Nat,k<=xs.length/\i=.int U k/\Hid (∀j,j<k->(0<=xs.getD j 0/\xs.getD j 0<=(N:Int)-1)/\xs.getD j 0≠id/\∀k,k<j->xs.getD k 0≠xs.getD j 0)) (fun i=>xs.length-(intOf i).toNat)
 case atStart=>exact⟨0,ψ _,rfl,Ab (fun j R=>by omega)⟩
 case round=>
  obtain⟨k,hk,rfl,A⟩:=hrel;by_cases y:k<xs.length
  ·have S:(k:Int)<(xs.length:Int):=by omega
   have X:k<N:=WO K (Aa A);obtain⟨b,off,rfl,u⟩:=(Aa H).at y;have O:=u k y;have Z:=lY (μ ⟨b,off,ω⟩) xs.length c k (by omega);have E:=Ab (RJ (μ ⟨b,off,ω⟩) k c (xs.take k) (xs.getD k 0) w ((Aa H).take (by omega)) (by omega));have l:=lR (xs:=xs) (k:=k) (by omega) (xs.getD k 0);clear u;have f:(¬((0<=xs.getD k 0/\xs.getD k 0<=(N:Int)-1)/\xs.getD k 0≠id/\∀q,q<k->xs.getD q 0≠xs.getD k 0))->¬Bw xs id N:=fun e p=>e (p.2 k y);have f:=Ab f;by_cases D:0<=xs.getD k 0/\xs.getD k 0<=(N:Int)-1
   case neg=>
    have C:=Ab ((Aa f) fun p=>D p.1);clear l E f A;generalize xs.getD k 0=x at*
    go_wp2_with (first
     |(go_at_call 41;refine(GU _ _ _ _ D).mono ?_;rintro e w1 ⟨rfl,d⟩;obtain rfl:=d.symm;clear d)
     |fail)
    go_ret;exact⟨.inr ⟨rfl,Aa C⟩,rfl⟩
   case pos=>
    by_cases B:xs.getD k 0=id
    ·have C:=Ab ((Aa f) fun p=>p.2.1 B)
     rw[B]at O D;clear B f A l E
     go_wp2_with (first
      |(go_at_call 41;refine(Fj _ _ _ _ D).mono ?_;rintro e w1 ⟨rfl,d⟩;obtain rfl:=d.symm;clear d)
      |fail)
     go_ret;exact⟨.inr ⟨rfl,Aa C⟩,rfl⟩
    ·by_cases I:xs.getD k 0∈xs.take k
     ·have C:=Ab ((Aa f) fun p=>by obtain⟨j,R,e⟩:=l.1 I;exact p.2.2 j R e)
      have J:decide (xs.getD k 0∈xs.take k)=true:=decide_eq_true I;rw[J]at E;clear l I J f A;generalize xs.getD k 0=x at*;have V:(x==(id:Int))=false:=beq_eq_false_iff_ne.2 B;clear B
      go_wp2_with (first
       |(go_at_call 41;refine(Fj _ _ _ _ D).mono ?_;rintro e w1 ⟨rfl,d⟩;obtain rfl:=d.symm;clear d)
       |(go_at_call 75;refine(Aa E).mono ?_;rintro e w1 ⟨rfl,d⟩;obtain rfl:=d.symm;clear d)
       |fail)
      go_ret;exact⟨.inr ⟨rfl,Aa C⟩,rfl⟩
     ·have J:decide (xs.getD k 0∈xs.take k)=false:=decide_eq_false I
      rw[J]at E
      have T:=Ab (show∀j,j<k+1->(0<=xs.getD j 0/\xs.getD j 0<=(N:Int)-1)/\xs.getD j 0≠id/\∀k,k<j->xs.getD k 0≠xs.getD j 0 from fun j R=>by
       by_cases e:j=k
       ·rw[e];exact⟨D,B,fun q Y e=>I (l.2 ⟨q,Y,e⟩)⟩
       ·exact Aa A j (by omega))
      clear l I J f A;generalize xs.getD k 0=x at*;have V:(x==(id:Int))=false:=beq_eq_false_iff_ne.2 B;clear B
      go_wp2_with (first
       |(go_at_call 41;refine(Fj _ _ _ _ D).mono ?_;rintro e w1 ⟨rfl,d⟩;obtain rfl:=d.symm;clear d)
       |(go_at_call 75;refine(Aa E).mono ?_;rintro e w1 ⟨rfl,d⟩;obtain rfl:=d.symm;clear d)
       |fail)
      go_round
      case rel=>exact⟨k+1,y,by go_num,T⟩
      case measure=>simp[intOf];omega
  ·have C:=Ab (show Bw xs id N from⟨by have:=WO K (Aa A);omega,fun i hi=>Aa A i (by omega)⟩)
   go_wp2;go_ret;exact⟨.inl ⟨rfl,Aa C⟩,rfl⟩
def Ka(n:Nat)(ds:List Er):Prop:=(1<=n/\n<=8)/\(∀i,i<n->(1<=(ds.getD i .dflt).kd/\(ds.getD i .dflt).kd<=3)/\Bw (ds.getD i .dflt).tos i n)/\srcN ds n=1
def fI(a:Option Addr)(n c:Nat)(ds:List Er)(w:δ)(h:BD w a n ds)(hn:n<=9223372036854775807)(T:∀i,i<n->(ds.getD i .dflt).n<=9223372036854775807/\(ds.getD i .dflt).n<=(ds.getD i .dflt).c):
  θ β 23 #[Γ a n c] w fun e w'=>((e=γ (κ true)/\Ka n ds)\/(e=γ (κ false)/\¬Ka n ds))/\Below w.heap.size w w':=by
 by_cases k0:1<=(n:Int)/\(n:Int)<=8
 case neg=>
  clear h;go_enter func23,ntmps23
  go_wp2_with (first
   |(go_at_call 41;refine(GU _ _ _ _ k0).mono ?_;rintro e w1 ⟨rfl,y⟩;obtain rfl:=y.symm;clear y)
   |fail)
  go_ret;exact⟨.inr ⟨rfl,fun p=>k0 ⟨by have:=p.1;omega,by have:=p.1;omega⟩⟩,Below.refl _ _⟩
 have H:=Ab h;have R:=Ab T;clear h T;go_enter func23,ntmps23
 go_wp2_with (first
  |(go_at_call 41;refine(Fj _ _ _ _ k0).mono ?_;rintro e w1 ⟨rfl,y⟩;obtain rfl:=y.symm;clear y)
  |fail)
 go_loopw [3,12] (fun s i wr=> ∃k:Nat,k<=n/\i=.int U k/\s=.int U (srcN ds k:Nat)/\Hid (Below w.heap.size w wr)/\Hid (∀j,j<k->(1<=(ds.getD j .dflt).kd/\(ds.getD j .dflt).kd<=3)/\Bw (ds.getD j .dflt).tos j n)) (fun _ i _=>n-(intOf i).toNat)
 case atStart=>exact⟨0,ψ _,rfl,rfl,Ab (Below.refl _ _),Ab (fun j hj=>by omega)⟩
 case round=>
  obtain⟨k,hk,rfl,rfl,X,I⟩:=hrel;rename_i wr;have ac:=Xw ds k;by_cases f:k<n
  ·have ab:(k:Int)<(n:Int):=by omega
   have hd:=(Aa H).below (Aa X);obtain⟨b,off,rfl,hc⟩:=hd.at f;obtain⟨Z,aa⟩:=hc k f;have V:=hd.2.1 k f;have Y:=Ab (fun wx (hb:Below wr.heap.size wr wx)=>sA _ _ (ds.getD k .dflt).c _ k n wx (V.below hb) ((Aa R) k f).1 ((Aa R) k f).2 (by omega) f);have l:=Ab (show(¬((1<=(ds.getD k .dflt).kd/\(ds.getD k .dflt).kd<=3)/\Bw (ds.getD k .dflt).tos k n))->¬Ka n ds from fun e p=>e (p.2.1 k f));have u:=Ab (show srcN ds (k+1)=srcN ds k+if (ds.getD k .dflt).kd=1 then 1 else 0 from rfl)
   have B:=Ab (fun(e:(1<=(ds.getD k .dflt).kd/\(ds.getD k .dflt).kd<=3)/\Bw (ds.getD k .dflt).tos k n)=>show∀j,j<k+1->(1<=(ds.getD j .dflt).kd/\(ds.getD j .dflt).kd<=3)/\Bw (ds.getD j .dflt).tos j n from fun j hj=>by
    by_cases q:j=k
    ·rw[q];exact e
    ·exact Aa I j (by omega))
   clear hc V hd;generalize ds.getD k .dflt=d at*;obtain⟨s1,J⟩:∃s1,srcN ds (k+1)=s1:=⟨_,rfl⟩;rw[J]at u;have O:=Ab J;clear J;generalize srcN ds k=s0 at*;have N:=Ab (As wr (.cells #[.int U d.kd,.slice d.a d.n d.c] 29));have A:=Ab (Ad (Aa X) (Aa N));go_wp2_with fail;refine(ie d.kd _).mono ?_;rintro e w2 ⟨⟨rfl,W⟩|⟨rfl,W⟩,C⟩
   ·obtain rfl:=C.symm
    clear C;go_wp2_with fail;refine(Aa Y _ (Aa N)).mono ?_;rintro e w3 ⟨⟨rfl,x⟩|⟨rfl,x⟩,D⟩
    ·obtain rfl:=D.symm
     have S:=Ab (Aa B ⟨W,x⟩);clear D l B I x Y Z aa;by_cases K:d.kd=1
     ·have hs:s1=s0+1:=by rw[Aa u,if_pos K]
      have e2:(d.kd==1)=true:=by rw[beq_iff_eq];exact K
      clear W K u;go_wp2;go_roundw
      case rel=>exact⟨k+1,f,by go_num,by rw[Aa O,hs];go_num,A,S⟩
      case measure=>simp[intOf];omega
     ·have hs:s1=s0:=by rw[Aa u,if_neg K,Nat.add_zero]
      have e2:(d.kd==1)=false:=by rw[beq_eq_false_iff_ne];exact K
      clear W K u;go_wp2;go_roundw
      case rel=>exact⟨k+1,f,by go_num,by rw[Aa O,hs],A,S⟩
      case measure=>simp[intOf];omega
    ·obtain rfl:=D.symm
     have E:=Ab ((Aa l) fun p=>x p.2);clear D l B I x Y;go_wp2;go_ret;exact⟨.inr ⟨rfl,Aa E⟩,Aa A⟩
   ·obtain rfl:=C.symm
    have E:=Ab ((Aa l) fun p=>W p.1);clear C l B I Y;go_wp2;go_ret;exact⟨.inr ⟨rfl,Aa E⟩,Aa A⟩
  ·obtain rfl:k=n:=by omega
   by_cases q:srcN ds k=1
   ·have E:=Ab (show Ka k ds from⟨by omega,Aa I,q⟩)
    rw[q];clear I q;go_wp2;go_ret;exact⟨.inl ⟨rfl,Aa E⟩,Aa X⟩
   ·have E:=Ab (show¬Ka k ds from fun p=>q p.2.2)
    have e2:(((srcN ds k:Nat):Int)==1)=false:=by rw[beq_eq_false_iff_ne];omega
    clear I q;go_wp2;go_ret;exact⟨.inr ⟨rfl,Aa E⟩,Aa X⟩
def LB(f:A1):Prop:=(0<=f.spread/\f.spread<=128)/\(1<=f.buffer/\f.buffer<=256)/\(1<=f.queue/\f.queue<=256)/\(0<=f.cache/\f.cache<=256)/\(0<=f.timeout/\f.timeout<=1048576)/\(1<=f.target/\f.target<=128)
def O9(f:A1):LC f↔Ka f.n f.ds/\LB f:=
 ⟨fun⟨⟨a,b⟩,c,d⟩=>⟨⟨a,c,d⟩,b⟩,fun⟨⟨a,c,d⟩,b⟩=>⟨⟨a,b⟩,c,d⟩⟩
def eM(f:A1)(w:δ):θ β 24 #[f.val] w fun e w'=>((e=γ (κ true)/\LB f)\/(e=γ (κ false)/\¬LB f))/\Below w.heap.size w w':=by
 obtain⟨a,n,c,ds,obj,size,spread,buffer,queue,cache,rate,timeout,target⟩:=f;simp only[A1.val,LB];have d:=Ab (As w (.cells #[Γ a n c,η obj,.int U size,.int U spread,.int U buffer,.int U queue,.int U cache,.float .f64 rate,.int U timeout,.int U target] 25));by_cases h:(0<=spread/\spread<=128)
 case neg=>
  go_enter func24,ntmps24
  go_wp2_with (first
   |(go_at_call 41;first|(refine(Fj _ _ _ _ (by assumption)).mono ?_;rintro e w1 ⟨rfl,b⟩;obtain rfl:=b.symm;clear b)|(refine(GU _ _ _ _ (by assumption)).mono ?_;rintro e w1 ⟨rfl,b⟩;obtain rfl:=b.symm;clear b))
   |fail)
  go_ret;exact⟨.inr ⟨rfl,fun p=>h p.1⟩,Aa d⟩
 by_cases i:(1<=buffer/\buffer<=256)
 case neg=>
  go_enter func24,ntmps24
  go_wp2_with (first
   |(go_at_call 41;first|(refine(Fj _ _ _ _ (by assumption)).mono ?_;rintro e w1 ⟨rfl,b⟩;obtain rfl:=b.symm;clear b)|(refine(GU _ _ _ _ (by assumption)).mono ?_;rintro e w1 ⟨rfl,b⟩;obtain rfl:=b.symm;clear b))
   |fail)
  go_ret;exact⟨.inr ⟨rfl,fun p=>i p.2.1⟩,Aa d⟩
 by_cases j:(1<=queue/\queue<=256)
 case neg=>
  go_enter func24,ntmps24
  go_wp2_with (first
   |(go_at_call 41;first|(refine(Fj _ _ _ _ (by assumption)).mono ?_;rintro e w1 ⟨rfl,b⟩;obtain rfl:=b.symm;clear b)|(refine(GU _ _ _ _ (by assumption)).mono ?_;rintro e w1 ⟨rfl,b⟩;obtain rfl:=b.symm;clear b))
   |fail)
  go_ret;exact⟨.inr ⟨rfl,fun p=>j p.2.2.1⟩,Aa d⟩
 by_cases k:(0<=cache/\cache<=256)
 case neg=>
  go_enter func24,ntmps24
  go_wp2_with (first
   |(go_at_call 41;first|(refine(Fj _ _ _ _ (by assumption)).mono ?_;rintro e w1 ⟨rfl,b⟩;obtain rfl:=b.symm;clear b)|(refine(GU _ _ _ _ (by assumption)).mono ?_;rintro e w1 ⟨rfl,b⟩;obtain rfl:=b.symm;clear b))
   |fail)
  go_ret;exact⟨.inr ⟨rfl,fun p=>k p.2.2.2.1⟩,Aa d⟩
 by_cases l:(0<=timeout/\timeout<=1048576)
 case neg=>
  go_enter func24,ntmps24
  go_wp2_with (first
   |(go_at_call 41;first|(refine(Fj _ _ _ _ (by assumption)).mono ?_;rintro e w1 ⟨rfl,b⟩;obtain rfl:=b.symm;clear b)|(refine(GU _ _ _ _ (by assumption)).mono ?_;rintro e w1 ⟨rfl,b⟩;obtain rfl:=b.symm;clear b))
   |fail)
  go_ret;exact⟨.inr ⟨rfl,fun p=>l p.2.2.2.2.1⟩,Aa d⟩
 by_cases q:(1<=target/\target<=128)
 case neg=>
  go_enter func24,ntmps24
  go_wp2_with (first
   |(go_at_call 41;first|(refine(Fj _ _ _ _ (by assumption)).mono ?_;rintro e w1 ⟨rfl,b⟩;obtain rfl:=b.symm;clear b)|(refine(GU _ _ _ _ (by assumption)).mono ?_;rintro e w1 ⟨rfl,b⟩;obtain rfl:=b.symm;clear b))
   |fail)
  go_ret;exact⟨.inr ⟨rfl,fun p=>q p.2.2.2.2.2⟩,Aa d⟩
 go_enter func24,ntmps24
 go_wp2_with (first
  |(go_at_call 41;first|(refine(Fj _ _ _ _ (by assumption)).mono ?_;rintro e w1 ⟨rfl,b⟩;obtain rfl:=b.symm;clear b)|(refine(GU _ _ _ _ (by assumption)).mono ?_;rintro e w1 ⟨rfl,b⟩;obtain rfl:=b.symm;clear b))
  |fail)
 go_ret;exact⟨.inl ⟨rfl,h,i,j,k,l,q⟩,Aa d⟩
def Tz(f:A1)(w:δ)(h:BN w f)(l:∀i,i<f.n->(f.ds.getD i .dflt).n<=(f.ds.getD i .dflt).c):
  θ β 10 #[f.val] w fun e w'=> ∃en:Int,e=γ (.int U en)/\Bm f en/\Below w.heap.size w w':=by
 have y:=Ab (As w (.cells #[.slice f.a f.n f.c,η f.obj,.int U f.size,.int U f.spread,.int U f.buffer,.int U f.queue,.int U f.cache,.float .f64 f.rate,.int U f.timeout,.int U f.target] 25));have K:=Ab (AI 25 w [.slice f.a f.n f.c,η f.obj,.int U f.size,.int U f.spread,.int U f.buffer,.int U f.queue,.int U f.cache,.float .f64 f.rate,.int U f.timeout,.int U f.target]);have O:=h.len;have ho:=h.obj;have J:=Ab (fun wx (N:Below w.heap.size w wx)=>fI f.a f.n f.c f.ds wx (h.nds.below N) O fun i E=>⟨(h.tos i E).1,l i E⟩);have A:=Ab (fun wx=>Ww (f.obj.size:Int) f.size wx (by omega));clear h l;rw[show f.val=.agg #[.slice f.a f.n f.c,η f.obj,.int U f.size,.int U f.spread,.int U f.buffer,.int U f.queue,.int U f.cache,.float .f64 f.rate,.int U f.timeout,.int U f.target] from rfl];go_enter func10,ntmps10;go_wp2_with fail;refine(Aa J _ (Aa y)).mono ?_;rintro e w1 ⟨⟨rfl,C⟩|⟨rfl,C⟩,d⟩
 ·have b:=(Aa K).below d
  have R:=b.at 0 rfl;have H:=b.at 1 rfl;have I:=b.at 2 rfl;have S:=b.at 3 rfl;have T:=b.at 4 rfl;have V:=b.at 5 rfl;have W:=b.at 6 rfl;have X:=b.at 7 rfl;have Y:=b.at 8 rfl;have Z:=b.at 9 rfl;have B:=Ab b;have k:=Ab (Ad (Aa y) d);clear b d;go_wp2_with fail;refine(eM f _).mono ?_;clear R H I S T V W X Y Z;rintro e w2 ⟨⟨rfl,D⟩|⟨rfl,D⟩,j⟩
  ·have b:=(Aa B).below j
   have H:=b.at 1 rfl;have I:=b.at 2 rfl;have q:=Ab (Ad (Aa k) j);have u:=Ab (show Bm f (planE f.obj.size f.size) from .inl ⟨(O9 f).2 ⟨C,D⟩,rfl⟩);clear b j
   go_wp2_with (first
    |(go_at_call 25;refine(Aa A _).mono ?_;rintro e w3 ⟨rfl,x⟩;obtain rfl:=x.symm;clear x)
    |fail)
   go_ret;exact⟨_,rfl,Aa u,Aa q⟩
  ·have q:=Ab (Ad (Aa k) j)
   have u:=Ab (show Bm f 1 from .inr ⟨fun p=>D ((O9 f).1 p).2,rfl⟩);clear j;go_wp2;go_ret;exact⟨1,rfl,Aa u,Aa q⟩
 ·have k:=Ab (Ad (Aa y) d)
  have u:=Ab (show Bm f 1 from .inr ⟨fun p=>C ((O9 f).1 p).1,rfl⟩);clear d;go_wp2;go_ret;exact⟨1,rfl,Aa u,Aa k⟩
def Ii(P:Program)(c:Code)(Q:Exit->Act->δ->Prop)(a:Act)(w:δ):Prop:=
 ∀(b:Frame) (k:List Item) (cs:List Frame),b.kind≠ .early->∃e d w',Q e d w'/\Arrives P (lone (b.at a (.code c::k)) cs w) b k cs e d w'
section
variable {P:Program} {Q:Exit->Act->δ->Prop} {a:Act} {w:δ}
def Na{c:Code}(h:c.wp P Q a w):Ii P c Q a w:=fun b k cs _=>h b k cs
def MO{x y:Code}(h:Ii P x (Exit.then (Ii P y Q) Q) a w):Ii P (.seq x y) Q a w:=by
 intro b k cs j;obtain⟨e,p,w1,l,n⟩:=h b (.code y::k) cs j;by_cases d:e=.normal
 ·subst d
  obtain⟨u,q,w2,f,i⟩:=l b k cs j;exact⟨u,q,w2,f,Arrives.of_steps (Steps.head step_seq n) i⟩
 ·have A:=Arrives.of_steps (Steps.one (step_seq (P:=P) (b:=b) (a:=a) (k:=k) (cs:=cs) (w:=w) (x:=x) (y:=y))) (Arrives.pass (x:=.code y) rfl (fun _ _=>.inl d) n)
  refine⟨e,p,w1,?_,A⟩;cases e<;>first|exact absurd rfl d|exact l
def Hl{x y:Code}(h:∀K:Act->δ->Prop,(∀a w,Ii P y Q a w->K a w)->x.wp P (Exit.then K Q) a w):Ii P (.seq x y) Q a w:=
 MO (Na (h _ fun _ _ h=>h))
def NG{f:FuncId}{b:Func}{c:Code}{args:Array Value}{R:Ending->δ->Prop}
  (p:P.funcs[f]? =μ b) (x:b.body=μ c) (n:∀w',¬R .outgrown w')
  (h:Ii P c (bodyPost P b R) {tmps:=args++Array.replicate (b.ntmps-args.size) undef,defers:=[]} w):θ P f args w R:=by
 refine calls_of_loneTo (fun cs=>?_) n;have q:Frame.enter P f args .normal=(base f).at {tmps:=args++Array.replicate (b.ntmps-args.size) undef,defers:=[]} [.code c]:=by
  simp[Frame.enter,Frame.at,p,x,base]
 rw[q];obtain⟨e,y,w',i,j⟩:=h (base f) [] cs (by simp[base])
 match e,i,j with
 | .normal,⟨l,v,u,k⟩,j=>exact⟨_,w',j.trans (.one step_end),γ v,_,rfl,k,rfl,rfl,l,rfl,b,p,u⟩
 | .ret,⟨l,v,u,k⟩,⟨_,j⟩=>exact⟨_,w',j,γ v,_,rfl,k,rfl,rfl,l,rfl,b,p,u⟩
 | .panic d,⟨l,k⟩,⟨_,j⟩=>exact⟨_,w',j,.panicked d,_,rfl,k,rfl,rfl,l,b,p⟩
 | .exit _,i,_=>exact i.elim
 | .goto _,i,_=>exact i.elim
 | .outgrown,i,_=>exact absurd i (n _)
def LA(P:Program)(o:Oper)(a:Act)(w:δ)(v:Value)(w':δ):Prop:=
 ∀(b:Frame) (ops:Array Oper) (i:Nat) (rest:List Nat) (k:List Item) (cs:List Frame),b.kind≠ .early->ops[i]? =μ o->Region.wanted o (yielded ops a.tmps)=true->
  step P (lone (b.at a (.inRegion ops (i::rest)::k)) cs w)=.next (lone (b.at (a.put o.dst v) (.inRegion ops rest::k)) cs w')
def OQ{id:Nat}{o:Oper}{l:List Oper}{v:Value}{w':δ}(y:o.guard=ω)(x:LA P o a w v w')
  (h:wpList P (o::l).toArray Q l (a.put o.dst v) w'):Ii P (.region id (o::l).toArray false) Q a w:=by
 intro b k cs u;have B:Region.wanted o (yielded (o::l).toArray a.tmps)=true:=by simp[Region.wanted,y]
 have n:=x b (o::l).toArray 0 (List.range' 1 l.length) k cs u (by simp) B;have p:=wpOps_eq_wpList (P:=P) (ops:=(o::l).toArray) (Q:=Q) l 1 (fun j=>by simp[Nat.add_comm 1 j]);rw[<-p]at h;obtain⟨e,i,C,A,d⟩:=wp_ops _ _ _ h b k cs;have f:=step_region (P:=P) (b:=b) (a:=a) (k:=k) (cs:=cs) (w:=w) (ops:=(o::l).toArray) (id:=id);have q:List.range (o::l).toArray.size=0::List.range' 1 l.length:=by
  rw[ι,ν,List.range_eq_range',List.range'_succ]
 rw[q]at f;exact⟨e,i,C,A,.of_steps (.head f (.one n)) d⟩
section
variable {o:Oper} {c cap s r:Nat} {buf:Array Value} {z v:Value} {tm:Bool}
def dp(j:(execOp a.eval o).run P w=.ok (.comm #[scase c v z] false .select) w)(h:w.heap[c]? =μ (.chan cap buf false s r tm))(d:buf.size<cap):
  LA P o a w (.tuple #[goInt 0,κ false]) (w.setChan c cap (buf.push v) false (s+1) r tm):=by
 intro b ops i rest k cs f e l;rw[lone_eq_solo,step_lone_select_send_room (stepG_comm e l f j) h d,Frame.finish_at,e];rfl
def dm(j:(execOp a.eval o).run P w=.ok (.comm #[scase c v z] false .select) w)(h:w.heap[c]? =μ (.chan cap buf false s r tm))(d:cap<=buf.size):
  LA P o a w (.tuple #[goInt (-1),κ false]) w:=by
 intro b ops i rest k cs f e l;rw[lone_eq_solo,step_lone_select_send_full (stepG_comm e l f j) h d,Frame.finish_at,e];rfl
def dl(j:(execOp a.eval o).run P w=.ok (.comm #[rcase c z] false .select) w)(h:w.heap[c]? =μ (.chan cap buf false s r tm))(d:0<buf.size):
  LA P o a w (.tuple #[goInt 0,κ true,buf.getD 0 undef]) (w.setChan c cap (buf.extract 1 buf.size) false s (r+1) tm):=by
 intro b ops i rest k cs f e l;rw[lone_eq_solo,step_lone_select_recv_buf (stepG_comm e l f j) h d,Frame.finish_at,e];rfl
end
end
def capN(n:Int):Nat:=min (max n 0).toNat 256
def JS(n:Int):capN n<=256:=Nat.min_le_right _ _
def YY(n:Int):min (max n 0) 256=(capN n:Int):=by unfold capN;omega
def MV(n:Int)(b:Array TypeId)(t:TypeId)(w:δ):(Builtin.max_ b t #[.int U n,.int U 0]).run β w=.ok (.int U (max n 0)) w:=by
 rw[run_max_int2];congr 2;split<;>omega
def MI(n:Int)(b:Array TypeId)(t:TypeId)(w:δ):(Builtin.min_ b t #[.int U (max n 0),.int U 256]).run β w=.ok (.int U (capN n:Int)) w:=by
 rw[run_min_int2,<-YY];congr 2;split<;>omega
variable {L:List ByteArray}{g c m lo:Nat}{w w':δ}
structure AO(w:δ)(g c m:Nat)(L:List ByteArray)(lo:Nat):Prop where
 blk:BkA 234 w g [.chan (μ c),.int U (lo:Int)]
 chn:∃s r,w.heap[c]? =μ (.chan m (BE L).toArray false s r false)
 len:L.length<=m
 most:m<=256
def quF(g c:Nat)(j:Nat):Prop:=j=g\/j=c
def AO.lt(h:AO w g c m L lo):g<w.heap.size/\c<w.heap.size:=by
 obtain⟨s,r,b⟩:=h.chn;exact⟨h.blk.lt,(Array.getElem?_eq_some_iff.1 b).1⟩
def AO.tu{F:Nat->Prop}(h:AO w g c m L lo)(ht:Tu F w w')(d:¬F g)(b:¬F c):AO w' g c m L lo:=by
 obtain⟨s,r,e⟩:=h.chn;exact⟨h.blk.tu ht d,⟨s,r,(ht.block c h.lt.2 b).trans e⟩,h.len,h.most⟩
def AO.below(h:AO w g c m L lo)(b:Below w.heap.size w w'):AO w' g c m L lo:=
 h.tu (F:=fun _=>False) (Tu.of_below b) id id
def AO.belowB{B:Nat}(h:AO w g c m L lo)(b:Below B w w')(e:g<B)(d:c<B):AO w' g c m L lo:=by
 obtain⟨s,r,f⟩:=h.chn;exact⟨h.blk.belowB b e,⟨s,r,(b.block c d).trans f⟩,h.len,h.most⟩
def AO.ne(h:AO w g c m L lo):g≠c:=fun e=>by
 obtain⟨s,r,b⟩:=h.chn;have:=h.blk;unfold BkA at this;rw[e,b]at this;cases this
def PT(w:δ)(c cap:Nat)(buf:Array Value)(b:Bool)(s r:Nat)(tm:Bool):Tu (fun j=>j=c) w (w.setChan c cap buf b s r tm):=
 ⟨rfl,rfl,rfl,by rw[size_setChan];exact ο _,fun k _ d=>by simp only[World.setChan];rw[Array.getElem?_setIfInBounds_ne (fun e=>d e.symm)]⟩
def Tu.wide{F G:Nat->Prop}(h:Tu F w w')(f:∀j,F j->G j):Tu G w w':=⟨h.os,h.tape,h.output,h.size,fun k d e=>h.block k d fun b=>e (f k b)⟩
def AO.chan{L':List ByteArray}(h:AO w g c m L lo)(b:L'.length<=m)(s r:Nat):AO (w.setChan c m (BE L').toArray false s r false) g c m L' lo:=
 ⟨h.blk.tu (PT _ _ _ _ _ _ _ _) h.ne,⟨s,r,heap_setChan _ _ _ _ _ _ _ _ h.lt.2⟩,b,h.most⟩
def AO.lost(h:AO w g c m L lo)(b:Nat):AO (w.setCell ⟨g,1,ω⟩ (.int U (b:Int))) g c m L b:=by
 obtain⟨s,r,d⟩:=h.chn;exact⟨h.blk.set 1 _,⟨s,r,((A8 w g 1 _).block c h.lt.2 (fun e=>h.ne e.symm)).trans d⟩,h.len,h.most⟩
def LO(L:List ByteArray):(BE L).toArray.size=L.length:=by rw[ι,dw]
def lq(n:Int)(w:δ):(Instr.makeChan 232 (.int U (capN n:Int))).run β w=.ok (.chan (μ w.heap.size)) (w.alloc (.chan (capN n) #[] false 0 0 false)):=by
 obtain⟨h,d,e,f,b⟩:=info_parts Mb;have:=JS n;exact run_makeChan (P:=β) (w:=w) underlying232 d U (capN n) (by omega) (by rw[b];omega)
def mj(n:Int)(w:δ):
  θ β 101 #[.int U n] w fun e w'=> ∃g c,e=γ (.pointer (μ ⟨g,0,ω⟩))/\w.heap.size<=g/\w.heap.size<=c/\AO w' g c (capN n) [] 0/\Below w.heap.size w w':=by
 have f:=MV n;have h:=MI n;have i:=lq n;have d:=JS n;generalize capN n=m at*;go_enter func101,ntmps101;go_wp2;go_ret
 have b:Below w.heap.size w ((w.alloc (.chan m #[] false 0 0 false)).alloc (.cells #[.chan (μ w.heap.size),.int U 0] 234)):=
  ((Below.refl _ _).alloc (ο _) _).trans (((Below.refl _ _).alloc (ο _) _).mono (by simp))
 refine⟨_,w.heap.size,rfl,by simp,ο _,⟨?_,⟨0,0,?_⟩,ψ _,d⟩,b⟩
 ·have:=AI 234 (w.alloc (.chan m #[] false 0 0 false)) [.chan (μ w.heap.size),.int U 0]
  simpa using this
 ·rw[Below.heap_alloc _ _ _ (by simp)]
  exact heap_alloc_new w _
def Mi(g c m lo:Nat)(L:List ByteArray)(w:δ)(h:AO w g c m L lo):θ β 129 #[.pointer (μ ⟨g,0,ω⟩)] w fun e w'=>e=γ (.int U (L.length:Int))/\w'=w:=by
 have f:=h.blk.at 0 rfl;obtain⟨s,r,b⟩:=h.chn;have d:=run_len_chan (P:=β) (w:=w) 232 3 underlying232 b;rw[LO]at d;generalize L.length=n at*;clear b h;go_enter func129,ntmps129;go_wp2;go_ret;exact⟨rfl,rfl⟩
def fS(L:List ByteArray)(s:ByteArray):(BE L).toArray.push (η s)=(BE (L++[s])).toArray:=by simp[BE]
def iE(s:ByteArray)(L:List ByteArray):(BE (s::L)).toArray.extract 1 (BE (s::L)).toArray.size=(BE L).toArray:=by
 simp[BE,υ]
def ml (g c m lo : Nat) (L : List ByteArray) (s : ByteArray) (w : δ) (h : AO w g c m L lo) (l : s.size <= 1048576) (x : L.length < m) :
    θ β 112 #[.pointer (μ ⟨g, 0, none⟩), η s] w fun e w' => e = γ (κ true) /\ AO w' g c m (L ++ [s]) lo /\ Tu (quF g c) w w' := by
  have y := h.blk.at 0 rfl;have H := Ab h;have q := Ab l;clear h l;refine NG func112 rfl (fun _ h => by cases h.1) ?_
  simp only [ntmps112, ι, ν, φ, Α, Β, Array.replicate_succ,
     Array.replicate_zero, σ, ς, χ, τ]
  refine Hl (fun K i => ?_);go_wp2;refine Hl (fun K i => ?_);go_wp2;refine Hl (fun K i => ?_)
  go_wp2_with (first
    | (go_at_call 33; refine (GR _ _ (Aa q)).mono ?_; rintro e w1 ⟨rfl, b⟩; have f := Ab b; clear b)
    | fail)
  have d := Ab ((Aa H).below (Aa f));obtain ⟨n, r, k⟩ := (Aa d).chn;refine MO (OQ rfl (dp (z := η ⟨#[]⟩) (v := η s) (c := c) (by simp [go_sem, execOp, scase, Act.eval]) k (by rw [LO]; exact x)) ?_);rw [fS];have p := Ab ((Aa d).chan (L' := L ++ [s]) (by rw [List.length_append, List.length_singleton]; omega) (n + 1) r);have u := Ab (Tu.after (Aa f) ((PT w1 c m (BE (L ++ [s])).toArray false (n + 1) r false).wide (G := quF g c) fun j e => .inr e));clear k;generalize w1.setChan c m (BE (L ++ [s])).toArray false (n + 1) r false = w2 at *;go_wp2;refine Na ?_;go_wp2;go_ret;exact ⟨rfl, Aa p, Aa u⟩
def rO (g c m lo : Nat) (L : List ByteArray) (s : ByteArray) (w : δ) (h : AO w g c m L lo) (p : s.size <= 1048576) (x : m <= L.length) (u : lo <= 1099511627776) :
    θ β 112 #[.pointer (μ ⟨g, 0, none⟩), η s] w fun e w' => e = γ (κ false) /\ AO w' g c m L (lo + 1) /\ Tu (quF g c) w w' := by
  have y := h.blk.at 0 rfl;have H := Ab h;have q := Ab p;clear h p;refine NG func112 rfl (fun _ h => by cases h.1) ?_
  simp only [ntmps112, ι, ν, φ, Α, Β, Array.replicate_succ,
     Array.replicate_zero, σ, ς, χ, τ]
  refine Hl (fun K k => ?_);go_wp2;refine Hl (fun K k => ?_);go_wp2;refine Hl (fun K k => ?_)
  go_wp2_with (first
    | (go_at_call 33; refine (GR _ _ (Aa q)).mono ?_; rintro e w1 ⟨rfl, b⟩; have f := Ab b; clear b)
    | fail)
  have d := Ab ((Aa H).below (Aa f));obtain ⟨n, r, l⟩ := (Aa d).chn;refine MO (OQ rfl (dm (z := η ⟨#[]⟩) (v := η s) (c := c) (by simp [go_sem, execOp, scase, Act.eval]) l (by rw [LO]; exact x)) ?_);clear l;go_wp2;refine Na ?_;have A := (Aa d).blk.at 1 rfl;have B := (Aa d).blk.frz 1;have C : IntKind.i64.wrap ((lo : Int) + 1) = (lo : Int) + 1 := by rw [ρ]; omega
  go_wp2;go_ret;have i := (Aa d).lost (lo + 1);rw [Int.natCast_add] at i;exact ⟨rfl, i, Tu.after (Aa f) ((A8 w1 g 1 _).wide (G := quF g c) fun j e => .inl e)⟩
def jA (g c m lo : Nat) (s : ByteArray) (L : List ByteArray) (w : δ) (h : AO w g c m (s :: L) lo) :
    θ β 108 #[.pointer (μ ⟨g, 0, none⟩)] w fun e w' => e = γ (.tuple #[η s, κ true]) /\ AO w' g c m L lo /\ Tu (quF g c) w w' := by
  have l := h.blk.at 0 rfl;have H := Ab h;clear h;refine NG func108 rfl (fun _ h => by cases h.1) ?_
  simp only [ntmps108, ι, ν, φ, Α, Β, Array.replicate_succ,
     Array.replicate_zero, σ, ς, χ, τ]
  refine Hl (fun K b => ?_);go_wp2;refine Hl (fun K b => ?_);go_wp2;refine Hl (fun K b => ?_);go_wp2;obtain ⟨n, r, d⟩ := (Aa H).chn;refine MO (OQ rfl (dl (z := η ⟨#[]⟩) (c := c) (by simp [go_sem, execOp, rcase, Act.eval]) d (by rw [LO]; exact Nat.succ_pos _)) ?_);rw [iE];have f : (BE (s :: L)).toArray.getD 0 undef = η s := by simp [BE]
  rw [f];have i := Ab ((Aa H).chan (L' := L) (by have := (Aa H).len; rw [ν] at this; omega) n (r + 1));have k := Ab ((PT w c m (BE L).toArray false n (r + 1) false).wide (G := quF g c) fun j e => .inr e);clear d f;generalize w.setChan c m (BE L).toArray false n (r + 1) false = w2 at *;go_wp2;refine Na ?_;go_wp2;go_ret2;exact ⟨rfl, Aa i, Aa k⟩
def Bu(x a b:Int):Int:=min (max x a) b
def M9(x:Int){a b:Int}(h:a<=b):a<=Bu x a b/\Bu x a b<=b:=by unfold Bu;omega
def bL{x a b:Int}(d:a<=x)(e:x<=b):Bu x a b=x:=by unfold Bu;omega
structure BT(w:δ)(g:Nat)(M T L:Int):Prop where
 blk:BkA 239 w g [.int U M,.int U T,.int U L]
 mil:0<=M/\M<=1000000
 top:1000<=T/\T<=256000
 lev:0<=L/\L<=T
def BT.tu{F:Nat->Prop}{w w':δ}{g:Nat}{M T L:Int}(h:BT w g M T L)(ht:Tu F w w')(b:¬F g):BT w' g M T L:=⟨h.blk.tu ht b,h.mil,h.top,h.lev⟩
def Gw(M T L n:Int):Int:=min (L+Bu n 0 1048576*M) T
def XP{M T L:Int}(n:Int)(b:0<=M)(e:0<=T)(d:0<=L):0<=Gw M T L n/\Gw M T L n<=T:=by
 have:=M9 n (show(0:Int)<=1048576 by decide);have:=Int.mul_nonneg this.1 b;unfold Gw;omega
def NX(x a b:Int)(w:δ):θ β 141 #[.int U x,.int U a,.int U b] w fun e w'=>e=γ (.int U (Bu x a b))/\w'=w:=by
 have f:=JJ x a;have d:=Iz (max x a) b;unfold Bu;generalize max x a=m at*;generalize min m b=n at*;go_enter func141,ntmps141;go_wp2;go_ret;exact⟨rfl,rfl⟩
def mc(m k:Int)(w:δ):
  θ β 140 #[.int U m,.int U k] w fun e w'=>e=γ (.pointer (μ ⟨w.heap.size,0,ω⟩))/\BT w' w.heap.size (Bu m 0 1000000) (1000*Bu k 1 256) (1000*Bu k 1 256)/\Below w.heap.size w w':=by
 have j:=M9 k (show(1:Int)<=256 by decide);have i:=M9 m (show(0:Int)<=1000000 by decide);have d:Hid True:=Ab trivial;have f:=NX k 1 256;have h:=NX m 0 1000000;generalize Bu k 1 256=x at*;generalize Bu m 0 1000000=y at*;go_enter func140,ntmps140
 go_wp2_with (first
  |(clear d;go_at_call 141;refine(f _).mono ?_;rintro e w1 ⟨rfl,b⟩;obtain rfl:=b.symm;clear b)
  |(go_at_call 141;refine(h _).mono ?_;rintro e w1 ⟨rfl,b⟩;obtain rfl:=b.symm;clear b)
  |fail)
 go_ret;exact⟨rfl,⟨AI 239 _ [.int U y,.int U (1000*x),.int U (1000*x)],i,by omega,by omega⟩,As _ _⟩
def md(g:Nat)(M T L:Int)(w:δ)(h:BT w g M T L)(d:L<1000):θ β 142 #[.pointer (μ ⟨g,0,ω⟩)] w fun e w'=>e=γ (κ false)/\w'=w:=by
 have b:=h.blk.at 2 rfl;go_enter func142,ntmps142;go_wp2;go_ret;exact⟨rfl,rfl⟩
def io(g:Nat)(M T L:Int)(w:δ)(h:BT w g M T L)(i:1000<=L):θ β 142 #[.pointer (μ ⟨g,0,ω⟩)] w fun e w'=>e=γ (κ true)/\BT w' g M T (L-1000)/\Tu (fun j=>j=g) w w':=by
 have b:=h.blk.at 2 rfl;have f:=h.blk.frz 2;have d:=h.lev;have ht:=h.top;have H:=Ab h;clear h;go_enter func142,ntmps142;go_wp2;go_ret;exact⟨rfl,⟨(Aa H).blk.set 2 _,(Aa H).mil,ht,by omega⟩,A8 _ _ _ _⟩
def sM(m k:Int)(w:δ):
  θ β 140 #[.int U m,.int U k] w fun e w'=> ∃g,e=γ (.pointer (μ ⟨g,0,ω⟩))/\w.heap.size<=g/\BT w' g (Bu m 0 1000000) (1000*Bu k 1 256) (1000*Bu k 1 256)/\Below w.heap.size w w':=
 (mc m k w).mono fun e w' ⟨b,d,f⟩=>⟨_,b,ο _,d,f⟩
def Zb(w:δ)(g i:Nat)(u:Value):Tu (fun j=>j=g) w (w.setCell ⟨g,i,ω⟩ u).drew:=Tu.of_gb (JU (Bz _ _ _ _)) fun j _ e=>(Option.some.inj e).symm
def ip(g:Nat)(M T L n:Int)(w:δ)(h:BT w g M T L):
  θ β 105 #[.pointer (μ ⟨g,0,ω⟩),.int U n] w fun e w'=>e=γ (.tuple #[])/\BT w' g M T (Gw M T L n)/\Tu (fun j=>j=g) w w':=by
 have y:=h.blk.at 0 rfl;have A:=h.blk.at 1 rfl;have B:=h.blk.at 2 rfl;have C:=h.blk.frz 2;have l:=h.lev;have ht:=h.top;have d:=h.mil;have k:=NX n 0 1048576;have i:=M9 n (show(0:Int)<=1048576 by decide);have p:=XP n d.1 (by omega:0<=T) l.1;have f:=Iz (L+Bu n 0 1048576*M) T;rw[show min (L+Bu n 0 1048576*M) T=Gw M T L n from rfl]at f;generalize Gw M T L n=Z at*;generalize Bu n 0 1048576=N at*;have q:0<=N*M:=Int.mul_nonneg i.1 d.1;have u:N*M<=1048576*1000000:=Int.mul_le_mul i.2 d.2 d.1 (by decide);have b:IntKind.i64.wrap (N*M)=N*M:=by rw[ρ];omega
 have x:IntKind.i64.wrap (L+N*M)=L+N*M:=by rw[ρ];omega
 have H:=Ab h;clear h;go_enter func105,ntmps105;go_wp2_with fail
 go_region_law (first
  |(go_simp;go_at_call 141;refine(k _).mono ?_;rintro e w1 ⟨rfl,b⟩;obtain rfl:=b.symm;clear b))
 all_goals go_wp2
 all_goals go_end0
 all_goals exact⟨rfl,⟨(Aa H).blk.set 2 _,d,ht,p⟩,Zb _ _ _ _⟩
end Go.Proofs.YtfpmnekaockodaaGreatDoor
