/- Laws for the proof. -/
import Derived.Test.YtfpmnekaockodaaGreatDoorU12
namespace Go.Proofs.YtfpmnekaockodaaGreatDoor
open Go.RowKit Go.Sort
set_option linter.all false
set_option maxRecDepth 4000
set_option maxHeartbeats 8000000
theorem jp(xs:List Int)(k:Nat)(a:k<xs.length):xs.take (k+1)=xs.take k++[xs.getD k 0]:=by
 rw[List.take_succ_eq_append_getElem a];simp[List.getD_eq_getElem?_getD,List.getElem?_eq_getElem a]
theorem ff(a:Option Addr)(n c:Nat)(xs:List Int)(x:Int)(w:World)(h:IntzAt w a n xs)(v:n<=1048576):
  Calls Tryz.prog 104 #[.slice a n c,.int .i64 x] w fun e w'=> ∃r:Int,e=.returned (.int .i64 r)/\decide (0<=r)=decide (x∈xs)/\w'=w:=by
 obtain rfl:=h.1;have s:=Ab h;clear h;go_enter Tryz.func104,Tryz.ntmps104;go_wp2;go_loop [8] (fun i=> ∃k:Nat,k<=xs.length/\i=.int .i64 k/\Hid (x∉xs.take k)) (fun i=>xs.length-(intOf i).toNat)
 case atStart=>exact⟨0,Nat.zero_le _,rfl,Ab (by rw[List.take_zero];exact List.not_mem_nil)⟩
 case round=>
  obtain⟨k,u,rfl,g⟩:=hrel;by_cases d:k<xs.length
  ·obtain⟨b,off,rfl,f⟩:=(Aa s).at d
   have j:=f k d;have o:(k:Int)<(xs.length:Int):=by omega
   have q:=Ab (jp xs k d);have p:=Ab (show xs.getD k 0∈xs from by rw[List.getD_eq_getElem?_getD,List.getElem?_eq_getElem d];exact List.getElem_mem d);clear f;generalize xs.getD k 0=y at*;by_cases m:x=y
   ·subst m
    go_wp2;go_ret;exact⟨_,rfl,⟨fun _=>Aa p,fun _=>by omega⟩,rfl⟩
   ·go_wp2
    go_round
    case rel=>exact⟨k+1,by omega,by go_num,Ab (by rw[Aa q,List.mem_append,List.mem_singleton];exact fun h=>h.elim (Aa g) m)⟩
    case measure=>simp[intOf];omega
  ·have l:xs.take k=xs:=List.take_of_length_le (by omega)
   rw[l]at g;go_wp2;go_ret;exact⟨_,rfl,⟨fun h=>absurd h (by decide),fun h=>absurd h (Aa g)⟩,rfl⟩
theorem RG(a:Option Addr)(n c:Nat)(xs:List Int)(x:Int)(w:World)(h:IntzAt w a n xs)(f:n<=1048576):
  Calls Tryz.prog 75 #[.slice a n c,.int .i64 x] w fun e w'=>e=.returned (.bool (decide (x∈xs)))/\w'=w:=by
 have d:=Ab (ff a n c xs x w h f);clear h;go_enter Tryz.func75,Tryz.ntmps75;go_wp2_with (go_at_call 104;refine(Aa d).mono ?_;rintro e w1 ⟨r,rfl,g,b⟩;obtain rfl:=b.symm;clear b d);go_ret;exact⟨rfl,rfl⟩
variable {xs:List Int}
theorem Fp(n l h:Int)(w:World)(a:l<=n/\n<=h):Calls Tryz.prog 41 #[.int .i64 n,.int .i64 l,.int .i64 h] w fun e w'=>e=.returned (.bool true)/\w'=w:=by
 obtain⟨b,c⟩:=a;go_enter Tryz.func41,Tryz.ntmps41;go_wp2;go_ret;exact⟨rfl,rfl⟩
theorem GU(n l h:Int)(w:World)(a:¬(l<=n/\n<=h)):Calls Tryz.prog 41 #[.int .i64 n,.int .i64 l,.int .i64 h] w fun e w'=>e=.returned (.bool false)/\w'=w:=by
 by_cases b:l<=n
 ·have c:¬n<=h:=fun e=>a ⟨b,e⟩
  clear a;go_enter Tryz.func41,Tryz.ntmps41;go_wp2;go_ret;exact⟨rfl,rfl⟩
 ·clear a
  go_enter Tryz.func41,Tryz.ntmps41;go_wp2;go_ret;exact⟨rfl,rfl⟩
theorem jP(k:Int)(w:World):Calls Tryz.prog 42 #[.int .i64 k] w fun e w'=>((e=.returned (.bool true)/\(1<=k/\k<=3))\/(e=.returned (.bool false)/\¬(1<=k/\k<=3)))/\w'=w:=by
 have a:k=1\/k=2\/k=3\/(k≠1/\k≠2/\k≠3):=by omega
 rcases a with rfl|rfl|rfl|⟨b,c,d⟩
 ·go_enter Tryz.func42,Tryz.ntmps42
  go_wp2;go_ret;exact⟨.inl ⟨rfl,by decide⟩,rfl⟩
 ·go_enter Tryz.func42,Tryz.ntmps42
  go_wp2;go_ret;exact⟨.inl ⟨rfl,by decide⟩,rfl⟩
 ·go_enter Tryz.func42,Tryz.ntmps42
  go_wp2;go_ret;exact⟨.inl ⟨rfl,by decide⟩,rfl⟩
 ·have f:¬(1<=k/\k<=3):=by omega
  have h:(k==1)=false:=beq_eq_false_iff_ne.2 b;have i:(k==2)=false:=beq_eq_false_iff_ne.2 c;have j:(k==3)=false:=beq_eq_false_iff_ne.2 d;have g:=Ab f;clear b c d f;go_enter Tryz.func42,Tryz.ntmps42;go_wp2;go_ret;exact⟨.inr ⟨rfl,Aa g⟩,rfl⟩
def EN(xs:List Int)(k:Nat):Nat->Nat
 |0=>0
 |m+1=>EN xs k m+if∃j,j<k/\xs.getD j 0=(m:Int)then 1 else 0
theorem aA(xs:List Int)(k m:Nat):EN xs k m<=m:=by
 induction m with
 |zero=>exact Nat.le_refl _
 |succ m a=>unfold EN;split<;>omega
theorem qB(xs:List Int)(k m i:Nat)(b:i<m)(h:¬∃j,j<k/\xs.getD j 0=(i:Int)):EN xs k m+1<=m:=by
 induction m with
 |zero=>omega
 |succ m a=>
  unfold EN;by_cases e:i=m
  ·subst e
   rw[if_neg h];have:=aA xs k i;omega
  ·have:=a (by omega)
   split<;>omega
theorem qC(xs:List Int)(k m:Nat)(h:¬∃v:Nat,v<m/\xs.getD k 0=(v:Int)):EN xs (k+1) m=EN xs k m:=by
 induction m with
 |zero=>rfl
 |succ m c=>
  unfold EN;rw[c fun⟨v,b,a⟩=>h ⟨v,by omega,a⟩];have e:(∃j,j<k+1/\xs.getD j 0=(m:Int))↔∃j,j<k/\xs.getD j 0=(m:Int):=by
   refine⟨fun⟨j,b,a⟩=>⟨j,?_,a⟩,fun⟨j,b,a⟩=>⟨j,by omega,a⟩⟩;by_cases q:j=k
   ·subst q;exact absurd ⟨m,Nat.lt_succ_self m,a⟩ h
   ·omega
  simp only[e]
theorem qD(xs:List Int)(k m x:Nat)(f:x<m)(b:xs.getD k 0=(x:Int))(h:¬∃j,j<k/\xs.getD j 0=(x:Int)):EN xs (k+1) m=EN xs k m+1:=by
 induction m with
 |zero=>omega
 |succ m d=>
  unfold EN;by_cases e:x=m
  ·subst e
   rw[qC xs k x fun⟨v,c,a⟩=>by rw[b]at a;omega,if_pos ⟨k,Nat.lt_succ_self k,b⟩,if_neg h]
  ·rw[d (by omega)]
   have q:(∃j,j<k+1/\xs.getD j 0=(m:Int))↔∃j,j<k/\xs.getD j 0=(m:Int):=by
    refine⟨fun⟨j,c,a⟩=>⟨j,?_,a⟩,fun⟨j,c,a⟩=>⟨j,by omega,a⟩⟩;by_cases r:j=k
    ·subst r;rw[b]at a;omega
    ·omega
   simp only[q];omega
theorem WL{id n k:Nat}(f:id<n)(h:∀j,j<k->(0<=xs.getD j 0/\xs.getD j 0<=(n:Int)-1)/\xs.getD j 0≠(id:Int)/\∀q,q<j->xs.getD q 0≠xs.getD j 0):k<n:=by
 have i:∀q,q<=k->EN xs q n=q:=by
  intro q
  induction q with
  |zero=>
   intro _;have:∀m,EN xs 0 m=0:=by
    intro m
    induction m with
    |zero=>rfl
    |succ m g=>unfold EN;rw[g,if_neg fun⟨j,c,_⟩=>by omega]
   exact this n
  |succ q g=>
   intro o;obtain⟨⟨a,b⟩,_,d⟩:=h q (by omega);obtain⟨x,l⟩:∃x:Nat,xs.getD q 0=(x:Int):=⟨(xs.getD q 0).toNat,by omega⟩;rw[qD xs q n x (by omega) l fun⟨j,c,e⟩=>d j c (by rw[e,l]),g (by omega)]
 have:=qB xs k n id f fun⟨j,c,e⟩=>(h j c).2.1 e;have:=i k (Nat.le_refl _);omega
theorem SI:Tryz.prog.underlying 27=some (.slice (Tryz.prog.elem 27)):=by kernel_rfl
theorem eN:Tryz.prog.elem 27=3:=by kernel_rfl
theorem mB(a:Option Addr)(n c q:Nat)(d:q<=c)(w:World):
  (Instr.sliceAt 27 (.slice a n c) none (some (.int .i64 (q:Int))) none).run Tryz.prog w=.ok (.slice a q c) w:=by
 have b:∀w:World,(sizeOf 3).run Tryz.prog w=.ok 1 w:=fun w=>by kernel_rfl
 rw[run_sliceAt_slice _ _ _ _ _ _ SI,run_slice_h _ _ _ _ _ SI _ _ (by omega) (by omega),eN,b];cases a<;>simp[Result.andThen,sliced,Addr.add]
theorem IntzAt.take{w:World}{a:Option Addr}{n:Nat}(h:IntzAt w a n xs){k:Nat}(f:k<=n):IntzAt w a k (xs.take k):=by
 refine⟨by rw[List.length_take,h.1];omega,?_⟩;rcases h.2 with e|⟨b,off,rfl,c⟩
 ·left;omega
 ·refine .inr ⟨b,off,rfl,fun i d=>?_⟩
  rw[c i (by omega),List.getD_eq_getElem?_getD,List.getD_eq_getElem?_getD,List.getElem?_take_of_lt d]
theorem la{k:Nat}(c:k<=xs.length)(x:Int):x∈xs.take k↔∃j,j<k/\xs.getD j 0=x:=by
 rw[List.mem_iff_getElem?];constructor
 ·rintro⟨j,a⟩
  have b:=(List.getElem?_eq_some_iff.1 a).1;rw[List.length_take]at b;refine⟨j,by omega,?_⟩;rw[List.getElem?_take_of_lt (by omega)]at a;rw[List.getD_eq_getElem?_getD,a];rfl
 ·rintro⟨j,a,rfl⟩
  refine⟨j,?_⟩;rw[List.getElem?_take_of_lt a,List.getElem?_eq_getElem (by omega),List.getD_eq_getElem?_getD,List.getElem?_eq_getElem (by omega)];rfl
theorem pY(a:Option Addr)(n c:Nat)(xs:List Int)(id N:Nat)(w:World)(h:IntzAt w a n xs)(T:n<=9223372036854775807)(Q:n<=c)(P:1<=N/\N<=8)(A:id<N):
  Calls Tryz.prog 43 #[.slice a n c,.int .i64 (id:Int),.int .i64 (N:Int)] w fun e w'=>((e=.returned (.bool true)/\BC xs id N)\/(e=.returned (.bool false)/\¬BC xs id N))/\w'=w:=by
 obtain rfl:=h.1;have J:IntKind.i64.wrap ((N:Int)-1)=(N:Int)-1:=by rw[IntKind.wrap_i64];omega
 have H:=Ab h;clear h;go_enter Tryz.func43,Tryz.ntmps43;go_wp2;go_loop [11] (fun i=> ∃k:Nat,k<=xs.length/\i=.int .i64 k/\Hid (∀j,j<k->(0<=xs.getD j 0/\xs.getD j 0<=(N:Int)-1)/\xs.getD j 0≠id/\∀k,k<j->xs.getD k 0≠xs.getD j 0)) (fun i=>xs.length-(intOf i).toNat)
 case atStart=>exact⟨0,Nat.zero_le _,rfl,Ab (fun j C=>by omega)⟩
 case round=>
  obtain⟨k,S,rfl,o⟩:=hrel;by_cases m:k<xs.length
  ·have D:(k:Int)<(xs.length:Int):=by omega
   have K:k<N:=WL A (Aa o);obtain⟨b,off,rfl,l⟩:=(Aa H).at m;have B:=l k m;have O:=mB (some ⟨b,off,none⟩) xs.length c k (by omega);have v:=Ab (RG (some ⟨b,off,none⟩) k c (xs.take k) (xs.getD k 0) w ((Aa H).take (by omega)) (by omega));have g:=la (xs:=xs) (k:=k) (by omega) (xs.getD k 0);clear l;have f:(¬((0<=xs.getD k 0/\xs.getD k 0<=(N:Int)-1)/\xs.getD k 0≠id/\∀q,q<k->xs.getD q 0≠xs.getD k 0))->¬BC xs id N:=fun e p=>e (p.2 k m);have f:=Ab f;by_cases u:0<=xs.getD k 0/\xs.getD k 0<=(N:Int)-1
   case neg=>
    have s:=Ab ((Aa f) fun p=>u p.1);clear g v f o;generalize xs.getD k 0=x at*
    go_wp2_with (first
     |(go_at_call 41;refine(GU _ _ _ _ u).mono ?_;rintro e w1 ⟨rfl,d⟩;obtain rfl:=d.symm;clear d)
     |fail)
    go_ret;exact⟨.inr ⟨rfl,Aa s⟩,rfl⟩
   case pos=>
    by_cases r:xs.getD k 0=id
    ·have s:=Ab ((Aa f) fun p=>p.2.1 r)
     rw[r]at B u;clear r f o g v
     go_wp2_with (first
      |(go_at_call 41;refine(Fp _ _ _ _ u).mono ?_;rintro e w1 ⟨rfl,d⟩;obtain rfl:=d.symm;clear d)
      |fail)
     go_ret;exact⟨.inr ⟨rfl,Aa s⟩,rfl⟩
    ·by_cases y:xs.getD k 0∈xs.take k
     ·have s:=Ab ((Aa f) fun p=>by obtain⟨j,C,e⟩:=g.1 y;exact p.2.2 j C e)
      have z:decide (xs.getD k 0∈xs.take k)=true:=decide_eq_true y;rw[z]at v;clear g y z f o;generalize xs.getD k 0=x at*;have I:(x==(id:Int))=false:=beq_eq_false_iff_ne.2 r;clear r
      go_wp2_with (first
       |(go_at_call 41;refine(Fp _ _ _ _ u).mono ?_;rintro e w1 ⟨rfl,d⟩;obtain rfl:=d.symm;clear d)
       |(go_at_call 75;refine(Aa v).mono ?_;rintro e w1 ⟨rfl,d⟩;obtain rfl:=d.symm;clear d)
       |fail)
      go_ret;exact⟨.inr ⟨rfl,Aa s⟩,rfl⟩
     ·have z:decide (xs.getD k 0∈xs.take k)=false:=decide_eq_false y
      rw[z]at v
      have E:=Ab (show∀j,j<k+1->(0<=xs.getD j 0/\xs.getD j 0<=(N:Int)-1)/\xs.getD j 0≠id/\∀k,k<j->xs.getD k 0≠xs.getD j 0 from fun j C=>by
       by_cases e:j=k
       ·rw[e];exact⟨u,r,fun q L e=>y (g.2 ⟨q,L,e⟩)⟩
       ·exact Aa o j (by omega))
      clear g y z f o;generalize xs.getD k 0=x at*;have I:(x==(id:Int))=false:=beq_eq_false_iff_ne.2 r;clear r
      go_wp2_with (first
       |(go_at_call 41;refine(Fp _ _ _ _ u).mono ?_;rintro e w1 ⟨rfl,d⟩;obtain rfl:=d.symm;clear d)
       |(go_at_call 75;refine(Aa v).mono ?_;rintro e w1 ⟨rfl,d⟩;obtain rfl:=d.symm;clear d)
       |fail)
      go_round
      case rel=>exact⟨k+1,m,by go_num,E⟩
      case measure=>simp[intOf];omega
  ·have s:=Ab (show BC xs id N from⟨by have:=WL A (Aa o);omega,fun i R=>Aa o i (by omega)⟩)
   go_wp2;go_ret;exact⟨.inl ⟨rfl,Aa s⟩,rfl⟩
def J0(n:Nat)(ds:List Eu):Prop:=(1<=n/\n<=8)/\(∀i,i<n->(1<=(ds.getD i .dflt).kd/\(ds.getD i .dflt).kd<=3)/\BC (ds.getD i .dflt).tos i n)/\srcN ds n=1
theorem fT(a:Option Addr)(n c:Nat)(ds:List Eu)(w:World)(h:BL w a n ds)(hn:n<=9223372036854775807)(J:∀i,i<n->(ds.getD i .dflt).n<=9223372036854775807/\(ds.getD i .dflt).n<=(ds.getD i .dflt).c):
  Calls Tryz.prog 23 #[.slice a n c] w fun e w'=>((e=.returned (.bool true)/\J0 n ds)\/(e=.returned (.bool false)/\¬J0 n ds))/\Below w.heap.size w w':=by
 by_cases T:1<=(n:Int)/\(n:Int)<=8
 case neg=>
  clear h;go_enter Tryz.func23,Tryz.ntmps23
  go_wp2_with (first
   |(go_at_call 41;refine(GU _ _ _ _ T).mono ?_;rintro e w1 ⟨rfl,o⟩;obtain rfl:=o.symm;clear o)
   |fail)
  go_ret;exact⟨.inr ⟨rfl,fun p=>T ⟨by have:=p.1;omega,by have:=p.1;omega⟩⟩,Below.refl _ _⟩
 have H:=Ab h;have E:=Ab J;clear h J;go_enter Tryz.func23,Tryz.ntmps23
 go_wp2_with (first
  |(go_at_call 41;refine(Fp _ _ _ _ T).mono ?_;rintro e w1 ⟨rfl,o⟩;obtain rfl:=o.symm;clear o)
  |fail)
 go_loopw [3,12] (fun s i wr=> ∃k:Nat,k<=n/\i=.int .i64 k/\s=.int .i64 (srcN ds k:Nat)/\Hid (Below w.heap.size w wr)/\Hid (∀j,j<k->(1<=(ds.getD j .dflt).kd/\(ds.getD j .dflt).kd<=3)/\BC (ds.getD j .dflt).tos j n)) (fun _ i _=>n-(intOf i).toNat)
 case atStart=>exact⟨0,Nat.zero_le _,rfl,rfl,Ab (Below.refl _ _),Ab (fun j Z=>by omega)⟩
 case round=>
  obtain⟨k,hk,rfl,rfl,N,z⟩:=hrel;rename_i wr;have aa:=Xt ds k;by_cases f:k<n
  ·have X:(k:Int)<(n:Int):=by omega
   have R:=(Aa H).below (Aa N);obtain⟨b,off,rfl,W⟩:=R.at f;obtain⟨P,Q⟩:=W k f;have K:=R.2.1 k f;have O:=Ab (fun wx (Y:Below wr.heap.size wr wx)=>pY _ _ (ds.getD k .dflt).c _ k n wx (K.below Y) ((Aa E) k f).1 ((Aa E) k f).2 (by omega) f);have g:=Ab (show(¬((1<=(ds.getD k .dflt).kd/\(ds.getD k .dflt).kd<=3)/\BC (ds.getD k .dflt).tos k n))->¬J0 n ds from fun e p=>e (p.2.1 k f));have l:=Ab (show srcN ds (k+1)=srcN ds k+if (ds.getD k .dflt).kd=1 then 1 else 0 from rfl)
   have u:=Ab (fun(e:(1<=(ds.getD k .dflt).kd/\(ds.getD k .dflt).kd<=3)/\BC (ds.getD k .dflt).tos k n)=>show∀j,j<k+1->(1<=(ds.getD j .dflt).kd/\(ds.getD j .dflt).kd<=3)/\BC (ds.getD j .dflt).tos j n from fun j Z=>by
    by_cases q:j=k
    ·rw[q];exact e
    ·exact Aa z j (by omega))
   clear W K R;generalize ds.getD k .dflt=d at*;obtain⟨s1,A⟩:∃s1,srcN ds (k+1)=s1:=⟨_,rfl⟩;rw[A]at l;have D:=Ab A;clear A;generalize srcN ds k=s0 at*;have C:=Ab (Ax wr (.cells #[.int .i64 d.kd,.slice d.a d.n d.c] 29));have r:=Ab (Ad (Aa N) (Aa C));go_wp2_with fail;refine(jP d.kd _).mono ?_;rintro e w2 ⟨⟨rfl,L⟩|⟨rfl,L⟩,v⟩
   ·obtain rfl:=v.symm
    clear v;go_wp2_with fail;refine(Aa O _ (Aa C)).mono ?_;rintro e w3 ⟨⟨rfl,m⟩|⟨rfl,m⟩,x⟩
    ·obtain rfl:=x.symm
     have I:=Ab (Aa u ⟨L,m⟩);clear x g u z m O P Q;by_cases B:d.kd=1
     ·have S:s1=s0+1:=by rw[Aa l,if_pos B]
      have V:(d.kd==1)=true:=by rw[beq_iff_eq];exact B
      clear L B l;go_wp2;go_roundw
      case rel=>exact⟨k+1,f,by go_num,by rw[Aa D,S];go_num,r,I⟩
      case measure=>simp[intOf];omega
     ·have S:s1=s0:=by rw[Aa l,if_neg B,Nat.add_zero]
      have V:(d.kd==1)=false:=by rw[beq_eq_false_iff_ne];exact B
      clear L B l;go_wp2;go_roundw
      case rel=>exact⟨k+1,f,by go_num,by rw[Aa D,S],r,I⟩
      case measure=>simp[intOf];omega
    ·obtain rfl:=x.symm
     have y:=Ab ((Aa g) fun p=>m p.2);clear x g u z m O;go_wp2;go_ret;exact⟨.inr ⟨rfl,Aa y⟩,Aa r⟩
   ·obtain rfl:=v.symm
    have y:=Ab ((Aa g) fun p=>L p.1);clear v g u z O;go_wp2;go_ret;exact⟨.inr ⟨rfl,Aa y⟩,Aa r⟩
  ·obtain rfl:k=n:=by omega
   by_cases q:srcN ds k=1
   ·have y:=Ab (show J0 k ds from⟨by omega,Aa z,q⟩)
    rw[q];clear z q;go_wp2;go_ret;exact⟨.inl ⟨rfl,Aa y⟩,Aa N⟩
   ·have y:=Ab (show¬J0 k ds from fun p=>q p.2.2)
    have V:(((srcN ds k:Nat):Int)==1)=false:=by rw[beq_eq_false_iff_ne];omega
    clear z q;go_wp2;go_ret;exact⟨.inr ⟨rfl,Aa y⟩,Aa N⟩
def LD(f:A4):Prop:=(0<=f.spread/\f.spread<=128)/\(1<=f.buffer/\f.buffer<=256)/\(1<=f.queue/\f.queue<=256)/\(0<=f.cache/\f.cache<=256)/\(0<=f.timeout/\f.timeout<=1048576)/\(1<=f.target/\f.target<=128)
theorem O5(f:A4):LF f↔J0 f.n f.ds/\LD f:=
 ⟨fun⟨⟨a,b⟩,c,d⟩=>⟨⟨a,c,d⟩,b⟩,fun⟨⟨a,c,d⟩,b⟩=>⟨⟨a,b⟩,c,d⟩⟩
theorem eB(f:A4)(w:World):Calls Tryz.prog 24 #[f.val] w fun e w'=>((e=.returned (.bool true)/\LD f)\/(e=.returned (.bool false)/\¬LD f))/\Below w.heap.size w w':=by
 obtain⟨a,n,c,ds,obj,size,spread,buffer,queue,cache,rate,timeout,target⟩:=f;simp only[A4.val,LD];have d:=Ab (Ax w (.cells #[.slice a n c,.string obj,.int .i64 size,.int .i64 spread,.int .i64 buffer,.int .i64 queue,.int .i64 cache,.float .f64 rate,.int .i64 timeout,.int .i64 target] 25));by_cases g:(0<=spread/\spread<=128)
 case neg=>
  go_enter Tryz.func24,Tryz.ntmps24
  go_wp2_with (first
   |(go_at_call 41;first|(refine(Fp _ _ _ _ (by assumption)).mono ?_;rintro e w1 ⟨rfl,b⟩;obtain rfl:=b.symm;clear b)|(refine(GU _ _ _ _ (by assumption)).mono ?_;rintro e w1 ⟨rfl,b⟩;obtain rfl:=b.symm;clear b))
   |fail)
  go_ret;exact⟨.inr ⟨rfl,fun p=>g p.1⟩,Aa d⟩
 by_cases h:(1<=buffer/\buffer<=256)
 case neg=>
  go_enter Tryz.func24,Tryz.ntmps24
  go_wp2_with (first
   |(go_at_call 41;first|(refine(Fp _ _ _ _ (by assumption)).mono ?_;rintro e w1 ⟨rfl,b⟩;obtain rfl:=b.symm;clear b)|(refine(GU _ _ _ _ (by assumption)).mono ?_;rintro e w1 ⟨rfl,b⟩;obtain rfl:=b.symm;clear b))
   |fail)
  go_ret;exact⟨.inr ⟨rfl,fun p=>h p.2.1⟩,Aa d⟩
 by_cases i:(1<=queue/\queue<=256)
 case neg=>
  go_enter Tryz.func24,Tryz.ntmps24
  go_wp2_with (first
   |(go_at_call 41;first|(refine(Fp _ _ _ _ (by assumption)).mono ?_;rintro e w1 ⟨rfl,b⟩;obtain rfl:=b.symm;clear b)|(refine(GU _ _ _ _ (by assumption)).mono ?_;rintro e w1 ⟨rfl,b⟩;obtain rfl:=b.symm;clear b))
   |fail)
  go_ret;exact⟨.inr ⟨rfl,fun p=>i p.2.2.1⟩,Aa d⟩
 by_cases j:(0<=cache/\cache<=256)
 case neg=>
  go_enter Tryz.func24,Tryz.ntmps24
  go_wp2_with (first
   |(go_at_call 41;first|(refine(Fp _ _ _ _ (by assumption)).mono ?_;rintro e w1 ⟨rfl,b⟩;obtain rfl:=b.symm;clear b)|(refine(GU _ _ _ _ (by assumption)).mono ?_;rintro e w1 ⟨rfl,b⟩;obtain rfl:=b.symm;clear b))
   |fail)
  go_ret;exact⟨.inr ⟨rfl,fun p=>j p.2.2.2.1⟩,Aa d⟩
 by_cases k:(0<=timeout/\timeout<=1048576)
 case neg=>
  go_enter Tryz.func24,Tryz.ntmps24
  go_wp2_with (first
   |(go_at_call 41;first|(refine(Fp _ _ _ _ (by assumption)).mono ?_;rintro e w1 ⟨rfl,b⟩;obtain rfl:=b.symm;clear b)|(refine(GU _ _ _ _ (by assumption)).mono ?_;rintro e w1 ⟨rfl,b⟩;obtain rfl:=b.symm;clear b))
   |fail)
  go_ret;exact⟨.inr ⟨rfl,fun p=>k p.2.2.2.2.1⟩,Aa d⟩
 by_cases l:(1<=target/\target<=128)
 case neg=>
  go_enter Tryz.func24,Tryz.ntmps24
  go_wp2_with (first
   |(go_at_call 41;first|(refine(Fp _ _ _ _ (by assumption)).mono ?_;rintro e w1 ⟨rfl,b⟩;obtain rfl:=b.symm;clear b)|(refine(GU _ _ _ _ (by assumption)).mono ?_;rintro e w1 ⟨rfl,b⟩;obtain rfl:=b.symm;clear b))
   |fail)
  go_ret;exact⟨.inr ⟨rfl,fun p=>l p.2.2.2.2.2⟩,Aa d⟩
 go_enter Tryz.func24,Tryz.ntmps24
 go_wp2_with (first
  |(go_at_call 41;first|(refine(Fp _ _ _ _ (by assumption)).mono ?_;rintro e w1 ⟨rfl,b⟩;obtain rfl:=b.symm;clear b)|(refine(GU _ _ _ _ (by assumption)).mono ?_;rintro e w1 ⟨rfl,b⟩;obtain rfl:=b.symm;clear b))
  |fail)
 go_ret;exact⟨.inl ⟨rfl,g,h,i,j,k,l⟩,Aa d⟩
theorem T7(f:A4)(w:World)(h:Bz w f)(k:∀i,i<f.n->(f.ds.getD i .dflt).n<=(f.ds.getD i .dflt).c):
  Calls Tryz.prog 10 #[f.val] w fun e w'=> ∃en:Int,e=.returned (.int .i64 en)/\Bl f en/\Below w.heap.size w w':=by
 have q:=Ab (Ax w (.cells #[.slice f.a f.n f.c,.string f.obj,.int .i64 f.size,.int .i64 f.spread,.int .i64 f.buffer,.int .i64 f.queue,.int .i64 f.cache,.float .f64 f.rate,.int .i64 f.timeout,.int .i64 f.target] 25));have B:=Ab (AN 25 w [.slice f.a f.n f.c,.string f.obj,.int .i64 f.size,.int .i64 f.spread,.int .i64 f.buffer,.int .i64 f.queue,.int .i64 f.cache,.float .f64 f.rate,.int .i64 f.timeout,.int .i64 f.target]);have D:=h.len;have P:=h.obj;have A:=Ab (fun wx (C:Below w.heap.size w wx)=>fT f.a f.n f.c f.ds wx (h.nds.below C) D fun i x=>⟨(h.tos i x).1,k i x⟩);have r:=Ab (fun wx=>Wi (f.obj.size:Int) f.size wx (by omega));clear h k;rw[show f.val=.agg #[.slice f.a f.n f.c,.string f.obj,.int .i64 f.size,.int .i64 f.spread,.int .i64 f.buffer,.int .i64 f.queue,.int .i64 f.cache,.float .f64 f.rate,.int .i64 f.timeout,.int .i64 f.target] from rfl];go_enter Tryz.func10,Tryz.ntmps10;go_wp2_with fail;refine(Aa A _ (Aa q)).mono ?_;rintro e w1 ⟨⟨rfl,u⟩|⟨rfl,u⟩,d⟩
 ·have b:=(Aa B).below d
  have E:=b.at 0 rfl;have y:=b.at 1 rfl;have z:=b.at 2 rfl;have H:=b.at 3 rfl;have I:=b.at 4 rfl;have J:=b.at 5 rfl;have K:=b.at 6 rfl;have L:=b.at 7 rfl;have N:=b.at 8 rfl;have O:=b.at 9 rfl;have s:=Ab b;have j:=Ab (Ad (Aa q) d);clear b d;go_wp2_with fail;refine(eB f _).mono ?_;clear E y z H I J K L N O;rintro e w2 ⟨⟨rfl,v⟩|⟨rfl,v⟩,g⟩
  ·have b:=(Aa s).below g
   have y:=b.at 1 rfl;have z:=b.at 2 rfl;have l:=Ab (Ad (Aa j) g);have m:=Ab (show Bl f (planE f.obj.size f.size) from .inl ⟨(O5 f).2 ⟨u,v⟩,rfl⟩);clear b g
   go_wp2_with (first
    |(go_at_call 25;refine(Aa r _).mono ?_;rintro e w3 ⟨rfl,o⟩;obtain rfl:=o.symm;clear o)
    |fail)
   go_ret;exact⟨_,rfl,Aa m,Aa l⟩
  ·have l:=Ab (Ad (Aa j) g)
   have m:=Ab (show Bl f 1 from .inr ⟨fun p=>v ((O5 f).1 p).2,rfl⟩);clear g;go_wp2;go_ret;exact⟨1,rfl,Aa m,Aa l⟩
 ·have j:=Ab (Ad (Aa q) d)
  have m:=Ab (show Bl f 1 from .inr ⟨fun p=>u ((O5 f).1 p).1,rfl⟩);clear d;go_wp2;go_ret;exact⟨1,rfl,Aa m,Aa j⟩
end Go.Proofs.YtfpmnekaockodaaGreatDoor
