/-
  Laws that the proof stands on.
-/
import Derived.Test.YtmmikiikddokgaaGreatDoorU25
namespace Go.Proofs.YtmmikiikddokgaaGreatDoor
open Go.RowKit Go.Sort
set_option linter.unusedVariables false
set_option linter.unusedSimpArgs false
set_option maxRecDepth 4000
set_option maxHeartbeats 8000000
variable {rs:List (List Nat)}{ss bs:List ByteArray}{kn:List Nat}{cs:List Value}{n:Nat}{w:World}
theorem fH(w:World)(n:Nat)(a:n<=1000000000):
  Own (w.alloc (.cells (madeCells #[.int .u64 0] n) 265)) w.heap.size (.slice (some ⟨w.heap.size,0,none⟩) n n) (BB n):=by
 refine⟨Ij n,⟨by simp[cellsU,BB],.inr ⟨w.heap.size,n,madeCells #[.int .u64 0] n,by simp[BB],Nat.le_refl _,heap_alloc_new w _,by simp[BB],by unfold maxLen;omega,by simp[size_madeCells],?_⟩⟩⟩;rw[toList_madeCells_one,List.take_of_length_le (by simp[BB])];simp[cellsU,BB]
theorem gf(P n c p s:Nat)(hp:s=0->p=0)(f:p+s<=c)(w:World):
  (Instr.sliceAt 40 (.slice (some ⟨P,0,none⟩) n c) (some (.int .i64 (p:Int))) (some (.int .i64 ((p+s:Nat):Int))) (some (.int .i64 ((p+s:Nat):Int)))).run Tryz.prog w=.ok (.slice (some ⟨P,p,none⟩) s s) w:=by
 have d:∀w:World,(sizeOf 265).run Tryz.prog w=.ok 1 w:=fun w=>by kernel_rfl
 rw[run_sliceAt_slice _ _ _ _ _ _ L6,run_slice_lhm _ _ _ _ _ L6 _ _ _ _ _ _ (by omega) (by omega) (by omega) (by omega),Ss,d];simp only[Result.andThen,sliced,Int.toNat_natCast,Nat.mul_one,Nat.add_sub_cancel_left];by_cases a:s=0
 ·have:=hp a
  subst a;subst this;simp
 ·have e:¬p+s=p:=by omega
  rw[if_neg e];have b:(⟨P,0,none⟩:Addr).add p=⟨P,p,none⟩:=by
   unfold Addr.add;split
   ·rename_i h;simp_all
   ·simp
  simp[b]
def Gb(P s N k:Nat):List Value:=(List.range N).map fun i=>if i<k then .slice (some ⟨P,i*s,none⟩) s s else .slice none 0 0
theorem cF(P s N:Nat):Gb P s N 0=List.replicate N (.slice none 0 0):=by
 apply List.ext_getElem
 ·simp[Gb]
 ·intro i a b;simp[Gb]
theorem Rt(P s N k i:Nat)(a:i<N):(Gb P s N k)[i]? =some (if i<k then .slice (some ⟨P,i*s,none⟩) s s else .slice none 0 0):=by
 simp[Gb,a]
theorem cG(P s N k:Nat)(d:k<N):(Gb P s N k).set k (.slice (some ⟨P,k*s,none⟩) s s)=Gb P s N (k+1):=by
 apply List.ext_getElem
 ·simp[Gb]
 ·intro i b c
  rw[List.getElem_set];by_cases e:k=i
  ·subst e;simp[Gb]
  ·rw[if_neg e]
   simp only[Gb,List.getElem_map,List.getElem_range];by_cases a:i<k
   ·rw[if_pos a,if_pos (by omega)]
   ·rw[if_neg a,if_neg (by omega)]
theorem Xs(N s:Nat)(w:World)(W:N<=100001)(hs:s<=4000):
  Calls Tryz.prog 287 #[.int .i64 (N:Int),.int .i64 (s:Int)] w fun e w'=>e=.returned (.slice (some ⟨w.heap.size+1,0,none⟩) N N)/\AH w' w.heap.size w.heap.size (w.heap.size+1) s N (List.replicate N (BB s))/\Below w.heap.size w w':=by
 have hM:N*s<=400004000:=Nat.le_trans (Nat.mul_le_mul W hs) (by decide);obtain⟨M,b⟩:∃M,N*s=M:=⟨_,rfl⟩;have Z:wrap64 ((N:Int)*(s:Int))=(M:Int):=by
  have l:((N:Int)*(s:Int))=((N*s:Nat):Int):=by simp
  rw[l,b];unfold wrap64;omega
 obtain⟨i0,v,C,E,D⟩:=info_parts KQ
 have ad:∀wx:World,(Instr.makeSlice 40 (.int .i64 (M:Int)) (.int .i64 (M:Int))).run Tryz.prog wx=.ok (.slice (some ⟨wx.heap.size,0,none⟩) M M) (wx.alloc (.cells (madeCells #[.int .u64 0] M) 265)):=fun wx=>by
  have:=run_make (P:=Tryz.prog) wx 40 265 i0 (.int .u64 0) Tryz.underlying40 v C .i64 .i64 (M:Int) (M:Int) (by omega) (Int.le_refl _) (by rw[D];omega) (by omega);rw[E]at this;simpa [Value.cells]using this
 obtain⟨i1,x,z,B,A⟩:=info_parts Mc
 have Y:∀wx:World,(Instr.makeSlice 260 (.int .i64 (N:Int)) (.int .i64 (N:Int))).run Tryz.prog wx=.ok (.slice (some ⟨wx.heap.size,0,none⟩) N N) (wx.alloc (.cells (madeCells #[.slice none 0 0] N) 40)):=fun wx=>by
  have:=run_make (P:=Tryz.prog) wx 260 40 i1 (.slice none 0 0) Tryz.underlying260 x z .i64 .i64 (N:Int) (N:Int) (by omega) (Int.le_refl _) (by rw[A];omega) (by omega);rw[B]at this;simpa [Value.cells]using this
 clear v C E D x z B A;have r:Below w.heap.size w (w.alloc (.cells (madeCells #[.int .u64 0] M) 265)):=(Below.refl _ _).alloc (Nat.le_refl _) _;have m:=fH w M (by omega);have T:=Bc w (.cells (madeCells #[.int .u64 0] M) 265);have a:=qA (w.alloc (.cells (madeCells #[.int .u64 0] M) 265)) N (by omega) _ rfl;have d:Below (w.alloc (.cells (madeCells #[.int .u64 0] M) 265)).heap.size (w.alloc (.cells (madeCells #[.int .u64 0] M) 265)) ((w.alloc (.cells (madeCells #[.int .u64 0] M) 265)).alloc (.cells (madeCells #[.slice none 0 0] N) 40)):=(Below.refl _ _).alloc (Nat.le_refl _) _;have I:=Ab (m.below d);have c:=a.top;rw[T,List.length_replicate,<-cF w.heap.size s N]at c;have J:=Ab c;have H:=Ab (Ad r d);clear r d m a c;have G:Hid (M=N*s):=b.symm;clear b hM;go_enter Tryz.func287,Tryz.ntmps287;go_wp2;go_loopw [17] (fun i wr=> ∃k:Nat,k<=N/\i=.int .i64 k/\Hid (Own wr w.heap.size (.slice (some ⟨w.heap.size,0,none⟩) M M) (BB M)/\wr.ownsRow (w.heap.size+1) 40 1 (.slice (some ⟨w.heap.size+1,0,none⟩) N N) N (Gb w.heap.size s N k)/\Below w.heap.size w wr)) (fun i _=>N-(intOf i).toNat)
 case atStart=>exact⟨0,Nat.zero_le _,rfl,Ab ⟨Aa I,Aa J,Aa H⟩⟩
 case round=>
  obtain⟨k,hk,rfl,V⟩:=hrel;obtain⟨m,a,K⟩:=Aa V;by_cases f:k<N
  ·obtain⟨p,hp⟩:∃p,k*s=p:=⟨_,rfl⟩
   obtain⟨q,Q⟩:∃q,p+s=q:=⟨_,rfl⟩;have y:k*s+s<=N*s:=by
    have:=Nat.mul_le_mul_right s f;rw[Nat.succ_mul]at this;exact this
   have L:N*s<=400004000:=Nat.le_trans (Nat.mul_le_mul W hs) (by decide);have ab:wrap64 ((k:Int)*(s:Int))=(p:Int):=by
    have l:((k:Int)*(s:Int))=((k*s:Nat):Int):=by simp
    rw[l,hp];unfold wrap64;omega
   have ac:wrap64 (((k:Int)+1)*(s:Int))=(q:Int):=by
    have l:(((k:Int)+1)*(s:Int))=((k*s+s:Nat):Int):=by rw[Int.add_mul,Int.one_mul];simp
    rw[l,hp,Q];unfold wrap64;omega
   have S:=gf w.heap.size M M p s (fun e=>by rw[<-hp,e,Nat.mul_zero]) (by have h:=Aa G;rw[h,<-hp];exact y);rw[Q]at S;have O:wr.cell? ⟨w.heap.size+1,k,none⟩=some (.slice none 0 0):=by
    rw[a.cellAt k (by omega),Rt _ _ _ _ _ f,if_neg (by omega)]
   have aa:=a.frozenAt k;have g:=(a.stored k (.slice (some ⟨w.heap.size,p,none⟩) s s)).1;rw[<-hp,cG _ _ _ _ f,hp]at g;have o:=m.kept (BA wr (w.heap.size+1) k (.slice (some ⟨w.heap.size,p,none⟩) s s)) (.inr (by show(some w.heap.size:Option Nat)≠some (w.heap.size+1);simp));have HN:=Ab (And.intro o (And.intro g (K.setCell (p:=⟨w.heap.size+1,k,none⟩) (Nat.le_succ _) (.slice (some ⟨w.heap.size,p,none⟩) s s))));clear m a K o g V I J H y L hp Q G;generalize w.heap.size+1=R at*;go_wp2;go_roundw
   case rel=>exact⟨k+1,by omega,by go_num,HN⟩
   case measure=>simp[intOf];omega
  ·obtain rfl:k=N:=by omega
   clear I J H;go_wp2;go_ret;refine⟨rfl,⟨BB M,⟨?_,by simp,fun i u=>?_⟩,?_,fun i u=>?_,by omega⟩,K⟩
   ·rw[Gd];exact Aa G
   ·have hg:(List.replicate k (BB s)).getD i []=BB s:=by rw[List.getD_eq_getElem?_getD,List.getElem?_replicate,if_pos u];rfl
    rw[hg];refine⟨Gd s,fun j X=>?_⟩;have l:=MA u X;have h2:=Aa G;unfold BB;rw[List.getD_eq_getElem?_getD,List.getD_eq_getElem?_getD,List.getElem?_replicate,List.getElem?_replicate,if_pos (by omega),if_pos X]
   ·rw[Gd];exact m
   ·rw[a.cellAt i (by omega),Rt _ _ _ _ _ u,if_pos u]
theorem IntsAt.kept{w':World}{a:Option Addr}{xs:List Nat}{row:Option Nat}(h:IntsAt w a n xs)(g:w.grownBy w' row)(d:n=0\/∀e,a=some e->some e.block≠row):IntsAt w' a n xs:=by
 refine⟨h.1,?_⟩;rcases h.2 with c|⟨b,off,rfl,f⟩
 ·exact .inl c
 ·rcases d with c|d
  ·exact .inl c
  ·exact .inr ⟨b,off,rfl,fun i j=>g.cell (f i j) (d ⟨b,off,none⟩ rfl)⟩
theorem rL(rs:List (List Nat))(i:Nat):rs.set i (rs.getD i [])=rs:=by
 apply List.ext_getElem (by simp);intro j b a;rw[List.getElem_set];split
 ·rename_i e;subst e;simp[List.getD_eq_getElem?_getD,List.getElem?_eq_getElem a]
 ·rfl
theorem N5{B P R s N a k:Nat}{r:List Nat}(h:AH w B P R s N (rs.set a r))(g:a<N)(l:rs.length=N)(o:k<64*s):
  ∃x:Nat,w.cell? ⟨P,a*s+k/64,none⟩=some (.int .u64 (x:Int))/\x<18446744073709551616/\w.frozen? ⟨P,a*s+k/64,none⟩=false/\
   AH (w.setCell ⟨P,a*s+k/64,none⟩ (.int .u64 ((setW x (k%64) true:Nat):Int))) B P R s N (rs.set a (Bz r k true)):=by
 have f:(rs.set a r).getD a []=r:=by rw[Ok rs a a r (by omega),if_pos rfl]
 obtain⟨c,m,i⟩:=h.row g;rw[f]at c;have d:k/64<s:=by omega
 obtain⟨b,off,e,j⟩:=c.at d;simp only[Option.some.injEq,Addr.mk.injEq,and_true]at e;obtain⟨rfl,rfl⟩:=e;refine⟨r.getD (k/64) 0,j _ d,c.2.1.get _,i _ d,?_⟩;have:=h.stored g d (setW (r.getD (k/64) 0) (k%64) true) (MF _ _ _ (c.2.1.get _) (by omega));rw[f,List.set_set]at this;exact this
theorem Vj(B P R s N g:Nat)(rs:List (List Nat))(L:Option Addr)(m c':Nat)(xs:List Nat)(W:Option Addr)(q cf:Nat)(fs:List Nat)(w:World)(h:AH w B P R s N rs)(hi:g<N)(O:RowAt w L m xs)
  (aa:m=0\/∀H,L=some H->some H.block≠some P) (Q:IntsAt w W q fs) (ab:q=0\/∀H,W=some H->some H.block≠some P) (Z:∀i,fs.getD i 0<=1000000000) (hn:q<=64*s) (hs:s<=4000) (hm:m<=1048576):
  Calls Tryz.prog 288 #[.slice (some ⟨P,g*s,none⟩) s s,.slice L m c',.slice W q cf] w fun e w'=>e=.returned (.tuple #[])/\AH w' B P R s N (rs.set g (Cc (rs.getD g []) xs fs q))/\w.grownBy w' (some P):=by
 have ac:=h.len.1;have J:Hid (AH w B P R s N (rs.set g (Cc (rs.getD g []) xs fs 0))/\w.grownBy w (some P)):=Ab ⟨by show AH w B P R s N (rs.set g (rs.getD g []));rw[rL];exact h,Ge _ _⟩;have v:Hid (∀k,Cc (rs.getD g []) xs fs (k+1)=if Ai xs (fs.getD k 0)=true then Bz (Cc (rs.getD g []) xs fs k) k true else Cc (rs.getD g []) xs fs k):=fun _=>rfl;clear h;generalize rs.getD g []=r0 at*;obtain⟨S,z⟩:∃S,g*s=S:=⟨_,rfl⟩;have T:=Ab z;rw[z];clear z;go_enter Tryz.func288,Tryz.ntmps288;go_wp2;go_loopw [10] (fun i wr=> ∃k:Nat,k<=q/\i=.int .i64 k/\Hid (AH wr B P R s N (rs.set g (Cc r0 xs fs k))/\w.grownBy wr (some P))) (fun i _=>q-(intOf i).toNat)
 case atStart=>exact⟨0,Nat.zero_le _,rfl,J⟩
 case round=>
  obtain⟨k,hk,rfl,V⟩:=hrel;obtain⟨D,y⟩:=Aa V;by_cases I:k<q
  ·obtain⟨b,off,rfl,X⟩:=(Q.kept y ab).at I
   have Y:=X k I;have hr:=O.kept y aa;have c:=Ms L m c' xs ((fs.getD k 0:Nat):Int) wr hr hm (by have:=Z k;omega);rw[Mk]at c;have a:=Aa v k;cases o:Ai xs (fs.getD k 0)with
   |false=>
    rw[o]at c a;rw[if_neg (by decide)]at a;rw[<-a]at D;have j:=Ab c;have HC:=Ab D;have E:=Ab y;clear D y c a X hr V J Q O o v;generalize fs.getD k 0=f at*;go_wp2_with fail;refine(Aa j).mono ?_;rintro e w1 ⟨rfl,d,u⟩;have l:Below wr.heap.size wr w1:=by rw[u];exact below_drewN (Below.refl _ _) d
    have K:=Ab (And.intro ((Aa HC).below l) (By (Aa E) (CM l (some P)) (.inl rfl)));clear u l HC E j;go_wp2;go_roundw
    case rel=>exact⟨k+1,by omega,by go_num,K⟩
    case measure=>simp[intOf];omega
   |true=>
    rw[o]at c a;rw[if_pos rfl]at a;have G:=Ab (fun(w1:World) (l:Below wr.heap.size wr w1)=>N5 (D.below l) hi ac (show k<64*s by omega));have j:=Ab c;have E:=Ab y;have r:=Ab a;clear D y c a X hr V J Q O o v;generalize fs.getD k 0=f at*;go_wp2_with fail;refine(Aa j).mono ?_;rintro e w1 ⟨rfl,d,u⟩;have l:Below wr.heap.size wr w1:=by rw[u];exact below_drewN (Below.refl _ _) d
    obtain⟨x,A,ae,C,p⟩:=Aa G w1 l;rw[Aa T]at A C p;have HX:=Ab (Pf P S s s k x w1 (by omega) (by omega) A ae C);rw[<-Aa r]at p;have K:=Ab (And.intro p (By (By (Aa E) (CM l (some P)) (.inl rfl)) (BA w1 P (S+k/64) (.int .u64 ((setW x (k%64) true:Nat):Int))) (.inl rfl)));clear u l E j G A C p r;go_wp2_with fail;refine(Aa HX).mono ?_;rintro e w2 ⟨rfl,u⟩;rw[<-u]at K;clear u HX;go_wp2;go_roundw
    case rel=>exact⟨k+1,by omega,by go_num,K⟩
    case measure=>simp[intOf];omega
  ·obtain rfl:k=q:=by omega
   clear O Q J;go_wp2;go_end0;exact⟨rfl,D,y⟩
theorem er(a:Option Addr)(n c:Nat)(ps:List Nat)(P:Option Addr)(m T:Nat)(xs:List Nat)(w:World)(h:IntsAt w a n ps)(K:RowAt w P m xs)(Y:n<=100000)(W:m<=1048576):
  Calls Tryz.prog 290 #[.slice a n c,.slice P m T] w fun e w'=> ∃v,e=.returned v/\AD w' w.heap.size v (chosenL ps (fun i=>Ai xs (n+i)) n)/\Below w.heap.size w w':=by
 have q:Hid (∀k,chosenL ps (fun i=>Ai xs (n+i)) (k+1)=if Ai xs (n+k)=true then chosenL ps (fun i=>Ai xs (n+i)) k++[ps.getD k 0]else chosenL ps (fun i=>Ai xs (n+i)) k):=fun _=>rfl;have r:=Ab (NS ps (fun i=>Ai xs (n+i)));have I:Hid (AD w w.heap.size (.slice none 0 0) (chosenL ps (fun i=>Ai xs (n+i)) 0)):=AD.nil _ _;generalize g:chosenL ps (fun i=>Ai xs (n+i))=L at*;clear g;go_enter Tryz.func290,Tryz.ntmps290;go_wp2;go_loopw [5,10] (fun v i wr=> ∃k:Nat,k<=n/\i=.int .i64 k/\∃C H c1,v=.slice C H c1/\Hid (AD wr w.heap.size (.slice C H c1) (L k))/\Hid (Below w.heap.size w wr)) (fun _ i _=>n-(intOf i).toNat)
 case atStart=>exact⟨0,Nat.zero_le _,rfl,none,0,0,rfl,I,Ab (Below.refl _ _)⟩
 case round=>
  obtain⟨k,X,rfl,C,H,c1,rfl,B,J⟩:=hrel;have z:=Aa J;by_cases E:k<n
  ·obtain⟨b,off,rfl,Q⟩:=(h.below z).at E
   have R:=Q k E;have j:=Ms P m T xs ((n:Int)+(k:Int)) wr (K.below z) W (by omega);rw[show(n:Int)+(k:Int)=((n+k:Nat):Int) by simp,Mk,show((n+k:Nat):Int)=(n:Int)+(k:Int) by simp]at j;have g:=Aa q k;have V:=Aa r k;cases u:Ai xs (n+k)with
   |false=>
    rw[u]at j g;rw[if_neg (by decide)]at g;have x:=B;rw[<-g]at x;have o:=Ab j;clear j g Q B h K u q r I;generalize ps.getD k 0=f at*;go_wp2_with fail;refine(Aa o).mono ?_;rintro e w1 ⟨rfl,d,G⟩;have y:Below wr.heap.size wr w1:=by rw[G];exact below_drewN (Below.refl _ _) d
    have p:=Ab ((Aa x).below y);have l:=Ab (Ad z y);clear G y x o z J;go_wp2;go_roundw
    case rel=>exact⟨k+1,by omega,by go_num,C,H,c1,rfl,p,l⟩
    case measure=>simp[intOf];omega
   |true=>
    rw[u]at j g;rw[if_pos rfl]at g;have A:=Ab g;have o:=Ab j;clear j g Q h K u q r I;generalize ps.getD k 0=f at*;go_wp2_with fail;refine(Aa o).mono ?_;rintro e w1 ⟨rfl,d,G⟩;have y:Below wr.heap.size wr w1:=by rw[G];exact below_drewN (Below.refl _ _) d
    have p:=Ab ((Aa B).below y);have l:=Ab (Ad z y);clear G y B o z J;have S:(L k).length<=1048576:=by omega
    go_wp2_with (first|(at_builtin;refine RB rfl _ _ rfl w.heap.size (.slice C H c1) (L k) f rfl rfl (Aa p) (Aa l).size S ?_;intro Z w4 s D;have N:=Ab ((Aa l).trans ((Aa p).grown D (Aa l).size));rw[<-Aa A]at s;obtain⟨a4,c4,rfl,_⟩:=s.ints;have O:=Ab s;clear D s p l A));go_roundw
    case rel=>exact⟨k+1,by omega,by go_num,a4,_,c4,rfl,O,N⟩
    case measure=>simp[intOf];omega
  ·obtain rfl:k=n:=by omega
   clear h K I q r;go_wp2;go_ret;exact⟨_,rfl,Aa B,Aa J⟩
def atR(a:List RV)(ps:List Nat):List RV:=ps.map fun i=>a.getD i .dflt
theorem Hd(a:List RV)(ps:List Nat):(atR a ps).length=ps.length:=by simp[atR]
theorem Wk(b:List RV)(ps:List Nat)(k:Nat)(a:k<ps.length):(atR b ps).getD k .dflt=b.getD (ps.getD k 0) .dflt:=by
 unfold atR;rw[List.getD_eq_getElem?_getD,List.getElem?_map,List.getElem?_eq_getElem a,List.getD_eq_getElem?_getD (l:=ps),List.getElem?_eq_getElem a];rfl
theorem Ae.atR{a:List RV}{ps:List Nat}(h:Ae w a)(hp:∀i∈ps,i<a.length):Ae w (atR a ps):=fun r c=>by
 obtain⟨i,b,rfl⟩:=List.mem_map.1 c;exact h.get (hp i b)
theorem Xc(a:Option Addr)(n c:Nat)(d:List RV)(K:Option Addr)(I X:Nat)(ps:List Nat)(w:World)(h:Aj w a n d)(hp:IntsAt w K I ps)(O:∀i∈ps,i<n)(hn:n<=1048576)(A:I<=1048576):
  Calls Tryz.prog 284 #[.slice a n c,.slice K I X] w fun e w'=> ∃v,e=.returned v/\Ak w' w.heap.size v (atR d ps)/\Below w.heap.size w w':=by
 obtain rfl:=hp.1;have W:=Ab h;have T:=Ab hp;have S:=Ab O;have ab:=MO ps.length A;have J:=Ab (MN w ps.length A (BL (atR d ps) 0) (by rw[OE,Hd]));have q:Hid (Below w.heap.size w (w.alloc (.cells (madeCells #[.slice none 0 0,.string ⟨#[]⟩] (ps.length*2)) 73))):=Ab ((Below.refl _ _).alloc (Nat.le_refl _) _);clear h hp O;go_enter Tryz.func284,Tryz.ntmps284;go_wp2;go_loopw [13] (fun i wr=> ∃k:Nat,k<=ps.length/\i=.int .i64 k/\Hid (Ak wr w.heap.size (.slice (some ⟨w.heap.size,0,none⟩) ps.length ps.length) (BL (atR d ps) k))/\Hid (Below w.heap.size w wr)) (fun i _=>ps.length-(intOf i).toNat)
 case atStart=>exact⟨0,Nat.zero_le _,rfl,J,q⟩
 case round=>
  obtain⟨k,hk,rfl,C,o⟩:=hrel;clear J q;by_cases f:k<ps.length
  ·obtain⟨bp,R,rfl,g⟩:=((Aa T).below (Aa o)).at f
   have aa:=g k f;have B:ps.getD k 0<n:=Aa S _ (by rw[List.getD_eq_getElem?_getD,List.getElem?_eq_getElem f];exact List.getElem_mem f);obtain⟨b,off,rfl,x⟩:=((Aa W).below (Aa o)).at B;obtain⟨Y,Z⟩:=x _ B;have P:(k:Int)<(ps.length:Int):=by omega
   have H:=OD (atR d ps) k (by rw[Hd];exact f);rw[Wk d ps k f]at H;generalize ps.getD k 0=p at*;have Q:(p:Int)<(n:Int):=by omega
   generalize d.getD p .dflt=r at*;have u:=Aa C;have y:(BL (atR d ps) k).length=ps.length:=by rw[NH _ _ (by rw[Hd];exact hk),Hd]
   have l:=Ib (BL (atR d ps) k) k (by omega);have D:=u.cellAt l.1;have E:=u.cellAt l.2;have j:wr.ownsRow w.heap.size 73 2 (.slice (some ⟨w.heap.size,0,none⟩) ps.length ps.length) ps.length (cellsR (BL (atR d ps) k)):=by
    have:wr.ownsRow w.heap.size 73 2 (.slice (some ⟨w.heap.size,0,none⟩) ps.length ps.length) (BL (atR d ps) k).length (cellsR (BL (atR d ps) k)):=u;rwa[y]at this
   have L:=j.frozenAt (k*2);have N:=j.frozenAt (k*2+1);have m:=u.stored k r;rw[H]at m;have V:=Ab m;have G:=Ab (((Aa o).setCell (p:=⟨w.heap.size,k*2,none⟩) (Nat.le_refl _) (.slice r.a r.n r.c)).setCell (p:=⟨w.heap.size,k*2+1,none⟩) (Nat.le_refl _) (.string r.s));clear x g u j m H l y C o;generalize (BL (atR d ps) k).getD k .dflt=z at*;go_wp2;go_roundw
   case rel=>exact⟨k+1,by omega,by go_num,V,G⟩
   case measure=>simp[intOf];omega
  ·obtain rfl:k=ps.length:=by omega
   rw[show ps.length=(atR d ps).length from(Hd d ps).symm,O4,Hd]at C;go_wp2;go_ret;exact⟨_,rfl,Aa C,Aa o⟩
def Bx(w:World)(cs:List Value)(rs:List (List Nat)):Prop:=cs.length=rs.length/\∀i u,cs[i]? =some u->∃a b,u=.slice a (rs.getD i []).length b/\RowAt w a (rs.getD i []).length (rs.getD i [])/\(rs.getD i []).length<=b
theorem Bx.below{w':World}(h:Bx w cs rs)(c:Below w.heap.size w w'):Bx w' cs rs:=⟨h.1,fun i u g=>by
 obtain⟨a,b,e,f,d⟩:=h.2 i u g;exact⟨a,b,e,f.below c,d⟩⟩
theorem Bx.append{ds:List Value}{ss:List (List Nat)}(h:Bx w cs rs)(k:Bx w ds ss):Bx w (cs++ds) (rs++ss):=by
 refine⟨by simp[h.1,k.1],fun i u a=>?_⟩;by_cases b:i<cs.length
 ·rw[List.getElem?_append_left b]at a
  have e:(rs++ss).getD i []=rs.getD i []:=by rw[List.getD_eq_getElem?_getD,List.getElem?_append_left (by rw[<-h.1];exact b),<-List.getD_eq_getElem?_getD]
  rw[e];exact h.2 i u a
 ·rw[List.getElem?_append_right (by omega)]at a
  have e:(rs++ss).getD i []=ss.getD (i-cs.length) []:=by rw[List.getD_eq_getElem?_getD,List.getElem?_append_right (by rw[<-h.1];omega),<-List.getD_eq_getElem?_getD,h.1]
  rw[e];exact k.2 _ u a
theorem Bx.take(h:Bx w cs rs)(q:Nat):Bx w (cs.take q) (rs.take q):=by
 refine⟨by simp[h.1],fun i u a=>?_⟩;have b:i<q:=by
  have:=(List.getElem?_eq_some_iff.1 a).1;rw[List.length_take]at this;omega
 rw[List.getElem?_take_of_lt b]at a;have e:(rs.take q).getD i []=rs.getD i []:=by rw[List.getD_eq_getElem?_getD,List.getElem?_take_of_lt b,<-List.getD_eq_getElem?_getD]
 rw[e];exact h.2 i u a
theorem Bx.drop(h:Bx w cs rs)(q:Nat):Bx w (cs.drop q) (rs.drop q):=by
 refine⟨by simp[h.1],fun i u a=>?_⟩;rw[List.getElem?_drop]at a;have e:(rs.drop q).getD i []=rs.getD (q+i) []:=by rw[List.getD_eq_getElem?_getD,List.getElem?_drop,<-List.getD_eq_getElem?_getD]
 rw[e];exact h.2 _ u a
theorem Bx.one(h:Bx w cs rs):∀u∈cs,u.oneCell'=true:=by
 intro u d;obtain⟨i,b,rfl⟩:=List.getElem_of_mem d;obtain⟨a,c,e,_⟩:=h.2 i _ (List.getElem?_eq_getElem b);rw[e];rfl
theorem VecsAt.cells{b off:Nat}(h:VecsAt w (some ⟨b,off,none⟩) n rs):∃cs,Bx w cs rs/\∀i u,cs[i]? =some u->w.cell? ⟨b,off+i,none⟩=some u:=by
 have k:∀m,m<=n->∃cs:List Value,cs.length=m/\∀i u,cs[i]? =some u->w.cell? ⟨b,off+i,none⟩=some u/\∃d f,u=.slice d (rs.getD i []).length f/\RowAt w d (rs.getD i []).length (rs.getD i [])/\(rs.getD i []).length<=f:=by
  intro m
  induction m with
  |zero=>exact fun _=>⟨[],rfl,fun i u a=>by simp at a⟩
  |succ m r=>
   intro x;obtain⟨cs,g,c⟩:=r (by omega);obtain⟨s,o,e,q⟩:=h.at (show m<n by omega);simp only[Option.some.injEq,Addr.mk.injEq,and_true]at e;obtain⟨rfl,rfl⟩:=e;obtain⟨d,f,l,p⟩:=q m (by omega);refine⟨cs++[.slice d (rs.getD m []).length f],by simp[g],fun i u a=>?_⟩;by_cases v:i<m
   ·rw[List.getElem?_append_left (by omega)]at a
    exact c i u a
   ·rw[List.getElem?_append_right (by omega)]at a
    have j:i=m:=by
     have:=(List.getElem?_eq_some_iff.1 a).1;simp at this;omega
    subst j;rw[g,Nat.sub_self]at a;simp at a;subst a;exact⟨l,d,f,rfl,p,h.cap (by omega) l⟩
 obtain⟨cs,g,c⟩:=k n (Nat.le_refl _);exact⟨cs,⟨by rw[g,h.1],fun i u a=>(c i u a).2⟩,fun i u a=>(c i u a).1⟩
theorem Bx.vecs{B:Nat}{v:Value}(h:w.ownsRow B 40 1 v n cs)(k:Bx w cs rs):∃a c,v=.slice a n c/\VecsAt w a n rs:=by
 have p:cs.length=n:=by simpa using h.1
 rcases h.2 with⟨rfl,m⟩|⟨g,cap,q,rfl,C,u,x,r,s,ht⟩
 ·exact⟨none,0,by rw[m],by rw[<-k.1,p],.inl m,fun _ _ _ _ _ _ e=>by cases e⟩
 ·have d:∀i (l:i<cs.length),w.cell? ⟨g,i,none⟩=some cs[i]:=fun i l=>by
   rw[cell_of_row w g i _ _ _ u,<-Array.getElem?_toList,<-List.getElem?_eq_getElem l,<-ht,List.getElem?_take_of_lt (by omega)]
  refine⟨_,cap,rfl,by rw[<-k.1,p],.inr ⟨g,0,rfl,fun i l=>?_⟩,fun b off i z j A e l o=>?_⟩
  ·have f:i<cs.length:=by omega
   obtain⟨a,c,e,y,_⟩:=k.2 i cs[i] (List.getElem?_eq_getElem f);refine⟨a,c,?_,y⟩;rw[Nat.zero_add,d i f,e]
  ·simp only[Option.some.injEq,Addr.mk.injEq,and_true]at e
   obtain⟨rfl,rfl⟩:=e;have f:i<cs.length:=by omega
   obtain⟨a,c,e,_,D⟩:=k.2 i cs[i] (List.getElem?_eq_getElem f);rw[Nat.zero_add,d i f,e]at o;simp only[Option.some.injEq,Value.slice.injEq]at o;omega
theorem Tb:Tryz.prog.underlying 260=some (.slice (Tryz.prog.elem 260)):=by kernel_rfl
theorem gH:Tryz.prog.elem 260=40:=by kernel_rfl
theorem nT(b off n c q:Nat)(a:q<=c)(w:World):
  (Instr.sliceAt 260 (.slice (some ⟨b,off,none⟩) n c) none (some (.int .i64 (q:Int))) none).run Tryz.prog w=.ok (.slice (some ⟨b,off,none⟩) q c) w:=by
 rw[run_sliceAt_slice _ _ _ _ _ _ Tb,run_slice_h _ _ _ _ _ Tb _ _ (by omega) (by omega),gH,lr];simp[Result.andThen,sliced,Addr.add]
theorem IntsAt.lt{a:Option Addr}{xs:List Nat}(h:IntsAt w a n xs):n=0\/∀c,a=some c->c.block<w.heap.size:=by
 rcases h.2 with d|⟨b,off,rfl,f⟩
 ·exact .inl d
 ·by_cases d:n=0
  ·exact .inl d
  ·right
   intro c e;simp only[Option.some.injEq]at e;subst e;exact World.block_lt_of_cell? w _ (f 0 (by omega))
def sizeL(n:Nat):Nat:=(2*n+63)/64
def I1(rs:List (List Nat))(ps fs:List Nat)(s i:Nat):List Nat:=Bz (Cc (BB s) (rs.getD (ps.getD i 0) []) fs ps.length) (ps.length+i) true
def BI(rs:List (List Nat))(ps fs:List Nat)(s k:Nat):List (List Nat):=(List.range (ps.length+1)).map fun i=>if i<k then I1 rs ps fs s i else BB s
theorem Ou(rs:List (List Nat))(ps fs:List Nat)(s k:Nat):(BI rs ps fs s k).length=ps.length+1:=by simp[BI]
theorem Ot(rs:List (List Nat))(ps fs:List Nat)(s k i:Nat)(a:i<ps.length+1):(BI rs ps fs s k).getD i []=if i<k then I1 rs ps fs s i else BB s:=by
 simp[BI,List.getD_eq_getElem?_getD,a]
theorem fK(rs:List (List Nat))(ps fs:List Nat)(s:Nat):BI rs ps fs s 0=List.replicate (ps.length+1) (BB s):=by
 apply List.ext_getElem
 ·simp[BI]
 ·intro i a b;simp[BI]
theorem lQ(rs:List (List Nat))(ps fs:List Nat)(s k:Nat)(d:k<ps.length+1):(BI rs ps fs s k).set k (I1 rs ps fs s k)=BI rs ps fs s (k+1):=by
 apply List.ext_getElem
 ·simp[BI]
 ·intro i b c
  rw[List.getElem_set];by_cases e:k=i
  ·subst e;simp[BI]
  ·rw[if_neg e]
   simp only[BI,List.getElem_map,List.getElem_range];by_cases a:i<k
   ·rw[if_pos a,if_pos (by omega)]
   ·rw[if_neg a,if_neg (by omega)]
theorem Rk(rs:List (List Nat))(ps fs:List Nat)(s i:Nat):Ac (I1 rs ps fs s i):=N7 (IR (Ij s) _ _ _) _ _
theorem RP(rs:List (List Nat))(ps fs:List Nat)(s i:Nat):(I1 rs ps fs s i).length=s:=by unfold I1;rw[Ii,Io,Gd]
theorem lP(rs:List (List Nat))(ps fs:List Nat)(s k j:Nat)(q:List Nat)(c:Ac q)(d:q.length=s)(M:Nat)(b:s<=M):AC M (((BI rs ps fs s k).set j q).take k):=by
 intro x a;rcases List.mem_or_eq_of_mem_set (List.mem_of_mem_take a)with a|rfl
 ·obtain⟨i,_,rfl⟩:=List.mem_map.1 a
  split
  ·exact⟨Rk _ _ _ _ _,by rw[RP];exact b⟩
  ·exact⟨Ij s,by rw[Gd];exact b⟩
 ·exact⟨c,by omega⟩
theorem R5(rs:List (List Nat))(ps fs:List Nat)(s:Nat)(q:List Nat):((BI rs ps fs s ps.length).set ps.length q).take ps.length=(BI rs ps fs s ps.length).take ps.length:=by
 apply List.ext_getElem
 ·simp
 ·intro i b a
  have c:i<ps.length:=by
   rw[List.length_take]at a;omega
  rw[List.getElem_take,List.getElem_take,List.getElem_set,if_neg (by omega)]
def exprL(rs:List (List Nat))(xs:List Nat):List Nat:=
 chosenL (keepL rs rs.length) (fun i=>Ai (reduceL (broughtL ((BI rs (keepL rs rs.length) (C2 (broughtL rs)) (sizeL (keepL rs rs.length).length) (keepL rs rs.length).length).take (keepL rs rs.length).length))
  (Cc (BB (sizeL (keepL rs rs.length).length)) xs (C2 (broughtL rs)) (keepL rs rs.length).length)) ((keepL rs rs.length).length+i)) (keepL rs rs.length).length
theorem WX(n:Nat):2*n<=64*sizeL n:=by unfold sizeL;omega
theorem WW(n:Nat)(h:n<=100000):sizeL n<=4000:=by unfold sizeL;omega
theorem dY{M:Nat}(h:AC M rs)(i:Nat)(c:i<(broughtL rs).length):0<=firstI ((broughtL rs).getD i []):=by
 have a:=(Fa h).getD i;have b:val ((broughtL rs).getD i [])≠0:=by
  refine(Kk h).1 _ (List.mem_map.2 ⟨_,?_,rfl⟩);simp[List.getD_eq_getElem?_getD,List.getElem?_eq_getElem c]
 rw[Ic a.1,if_neg b];omega
theorem fS{M:Nat}(h:AC M rs):C2 (broughtL rs)=(broughtL rs).map fun b=>Ech.low (val b):=by
 unfold C2;apply List.map_congr_left;intro b a;have c:=(Fa h) b a;have d:val b≠0:=(Kk h).1 _ (List.mem_map.2 ⟨b,a,rfl⟩);rw[Ic c.1,if_neg d];rfl
theorem dP(h:AC 1048576 rs)(i:Nat):(C2 (broughtL rs)).getD i 0<=1000000000:=by
 by_cases b:i<(broughtL rs).length
 ·rw[Nz _ i b]
  have a:=(Fa h).getD i;have:=TV a.1;omega
 ·rw[F5 (by rw[Ih];omega)]
  omega
theorem cA(rs:List (List Nat)):(broughtL rs).length=(keepL rs rs.length).length:=by rw[Nm rs _ (Nat.le_refl _),List.take_length]
theorem NG(e:AC 1048576 rs)(m:rs.length<=100000){xs:List Nat}(d:Ac xs){c:Nat}(f:Bq rs xs c):exprL rs xs=chosenL (keepL rs rs.length) (fun i=>c.testBit i) (keepL rs rs.length).length:=by
 have g:=GA rs rs.length;have h:=WX (keepL rs rs.length).length;have a:=WW (keepL rs rs.length).length (by omega);unfold exprL;refine Rs _ _ fun i l=>?_;refine dE e (M':=4000) (fs:=C2 (broughtL rs)) (fS e) ?_ ?_ ?_ (IR (Ij _) _ _ _) (pB d (by omega)) (by rw[Io,Gd];exact a) f i
 ·rw[List.length_take,Ou];omega
 ·rw[<-R5 _ _ _ _ []]
  intro x d;have k:=List.mem_of_mem_take d;obtain⟨j,b,rfl⟩:=List.getElem_of_mem d;rw[List.length_take,List.length_set,Ou]at b;rw[List.getElem_take,List.getElem_set,if_neg (by omega)];simp only[BI,List.getElem_map,List.getElem_range];split
  ·exact⟨Rk _ _ _ _ _,by rw[RP];exact a⟩
  ·exact⟨Ij _,by rw[Gd];exact a⟩
 ·intro j b
  rw[List.getD_eq_getElem?_getD,List.getElem?_take_of_lt b,<-List.getD_eq_getElem?_getD,Ot _ _ _ _ _ _ (by omega),if_pos b];exact qB (e.getD _).1 (by omega) (by omega)
def Xg:List Nat->Nat->List Nat->List Nat
 |xs,_,[]=>xs
 |xs,o,y::r=>Xg (xs.set o y) (o+1) r
theorem Own.setCells{B g:Nat}:∀(a:List Nat) (w:World) (xs:List Nat) (o cap:Nat),Own w B (.slice (some ⟨g,0,none⟩) xs.length cap) xs->Ac a->Own (w.setCells g o (cellsU a)) B (.slice (some ⟨g,0,none⟩) xs.length cap) (Xg xs o a)
 |[],w,xs,o,cap,h,_=>h
 |y::r,w,xs,o,cap,h,c=>by
  have d:=h.stored o y (c y List.mem_cons_self);have b:=Own.setCells r _ (xs.set o y) (o+1) cap (by rw[List.length_set];exact d) c.tail;rw[List.length_set]at b;exact b
def exL(rs:List (List Nat))(xs:List Nat):List Nat:=if firstI (reduceL (broughtL rs) xs)<0 then exprL rs xs else []
def Cs(f:Nat->Nat)(vs:List Nat):Nat->Nat
 |0=>0
 |n+1=>if Ai vs n then Cs f vs n^^^f n else Cs f vs n
theorem KL(ss:List ByteArray)(vs:List Nat)(i:Nat):∀n,(Bp ss vs n).getD i 0=Cs (fun b=>(tx (ss.getD b ByteArray.empty)).getD i 0) vs n
 |0=>by simp[Bp,Cs]
 |n+1=>by
  unfold Bp Cs;split
  ·rw[Du,KL ss vs i n]
  ·exact KL ss vs i n
theorem TF{f g:Nat->Nat}{xs kn:List Nat}(c:∀b,Ai kn b=true->g b=f b)(d:∀b,Ai kn b=false->g b=0):∀n,Cs f xs n^^^Cs g xs n=Cs f (dropL xs kn) n
 |0=>by simp[Cs]
 |n+1=>by
  have a:=TF (xs:=xs) c d n;unfold Cs;rw[G0];cases h:Ai xs n
  ·simpa using a
  ·cases e:Ai kn n
   ·rw[d n e]
    simp only[Bool.not_false,Bool.and_true,if_true,Nat.xor_zero];rw[<-a,Nat.xor_assoc,Nat.xor_comm (f n),<-Nat.xor_assoc]
   ·rw[c n e]
    simp only[Bool.not_true,Bool.and_false,if_true,Bool.false_eq_true,if_false];rw[<-a,Nat.xor_assoc,Nat.xor_comm (f n),Nat.xor_assoc,Nat.xor_self,Nat.xor_zero]
theorem ME{f:Nat->Nat}{vs:List Nat}{b:Nat}(h:∀i,Ai vs i=decide (i=b)):∀n,Cs f vs n=if b<n then f b else 0
 |0=>by simp[Cs]
 |n+1=>by
  unfold Cs;rw[ME h n,h n];by_cases e:n=b
  ·subst e
   rw[decide_eq_true rfl,if_pos rfl,if_neg (by omega),if_pos (by omega)];exact Nat.zero_xor _
  ·rw[decide_eq_false e,if_neg (by simp)]
   by_cases a:b<n
   ·rw[if_pos a,if_pos (by omega)]
   ·rw[if_neg a,if_neg (by omega)]
theorem Ki{vs:List Nat}{s:ByteArray}:DJ ss vs s=true↔(∀i,Cs (fun b=>(tx (ss.getD b ByteArray.empty)).getD i 0) vs ss.length=(tx s).getD i 0)/\∀i,ss.length<=i->Ai vs i=false:=by
 rw[fY,mh];refine and_congr_left fun _=>?_;constructor
 ·intro h i
  have:=h i;rw[MG,Du,DB (IU _ _ _),KL]at this;exact Ech.eq_of_xor this
 ·intro h i
  rw[MG,Du,DB (IU _ _ _),KL,h i,Nat.xor_self]
def QR(ss:List ByteArray)(kn:List Nat)(bs:List ByteArray):Prop:=∀b,Ai kn b=true->∀i,(tx (bs.getD b ByteArray.empty)).getD i 0=(tx (ss.getD b ByteArray.empty)).getD i 0
theorem We{j:Nat}(c:Kn (ss.length:Int) j kn bs)(e:QR ss kn bs){xs:List Nat}{s:ByteArray}(h:DJ ss xs s=true)(i:Nat):
  (tx (Do bs xs s)).getD i 0=Cs (fun b=>(tx (ss.getD b ByteArray.empty)).getD i 0) (dropL xs kn) ss.length:=by
 unfold Do;have d:=c.lenb;rw[Int.toNat_natCast]at d;rw[MG,Du,DB (IU _ _ _),KL,d,<-(Ki.1 h).1 i];refine TF (fun b a=>e b a i) (fun b a=>?_) _;show(tx (bs.getD b ByteArray.empty)).getD i 0=0;rw[c.none b a];rfl
theorem Run.truth{ss:List ByteArray}{rs:List RV}(o:0<sizeOfK (ss.length:Int))(m:Dn rs)(u:∀r∈rs,DJ ss r.xs r.s=true):∀{j:Nat} {kn:List Nat} {bs:List ByteArray},Run (ss.length:Int) rs j kn bs->QR ss kn bs
 |0,kn,bs,⟨g,k⟩=>fun b f=>by rw[g,Jm]at f;cases f
 |j+1,kn,bs,⟨p,x,r,g,k,y,z⟩=>by
  have l:=Run.known o m g;have q:=Run.truth o m u g;have v:=List.mem_of_find?_eq_some k;obtain⟨D,a,B,C,c,A⟩:=Kz (m r v).1 (List.find?_some k);have d:=DX o;rw[Int.toNat_natCast]at c d;subst y z;intro b f i;rw[Ik _ _ _ _ (by rw[l.len];omega)]at f;rw[Ke];by_cases e:b=blkOf p r
  ·rw[if_pos ⟨e,by rw[l.lenb,Int.toNat_natCast];exact c⟩,We l q (u r v),ME a,if_pos c,e]
  ·rw[if_neg e]at f
   rw[if_neg (fun h=>e h.1)];exact q b f i
theorem nI{rs:List RV}(e:AM (ss.length:Int) rs kn bs)(g:Dn rs)(l:∀r∈rs,DJ ss r.xs r.s=true):∀x∈toldTo (ss.length:Int) kn bs (ss.length:Int).toNat,DJ ss x.1 x.2=true:=by
 intro x d;by_cases m:sizeOfK (ss.length:Int)=0
 ·obtain⟨o,p,_⟩:=IQ (rs:=rs) m
  obtain⟨rfl,rfl⟩:=e.uniq o;rw[p]at d;cases d
 ·obtain⟨⟨j,h⟩,_⟩:=e
  have a:=Run.known (by omega) g h;have k:=Run.truth (by omega) g l h;obtain⟨b,f,c,rfl⟩:=Iq a d;rw[Int.toNat_natCast]at f;refine Ki.2 ⟨fun i=>?_,fun i q=>?_⟩
  ·rw[ME (IY a.size (by omega)),if_pos f]
   exact(k b c i).symm
  ·rw[IY a.size (by omega),decide_eq_false (by omega)]
theorem nH{rs:List RV}(c:AM (ss.length:Int) rs kn bs)(d:Dn rs)(b:∀r∈rs,DJ ss r.xs r.s=true):∀x∈restL (ss.length:Int) rs kn bs,DJ ss x.1 x.2=true:=by
 intro x a;by_cases m:sizeOfK (ss.length:Int)=0
 ·obtain⟨o,_,p⟩:=IQ (rs:=rs) m
  obtain⟨rfl,rfl⟩:=c.uniq o;rw[p]at a;cases a
 ·obtain⟨⟨j,e⟩,_⟩:=c
  have g:=Run.known (by omega) d e;have h:=Run.truth (by omega) d b e;unfold restL at a;rw[List.mem_map]at a;obtain⟨r,l,rfl⟩:=a;have f:=(List.mem_filter.1 l).1;refine Ki.2 ⟨fun i=>(We g h (b r f) i).symm,fun i k=>?_⟩;show Ai (dropL r.xs kn) i=false;rw[G0,(Ki.1 (b r f)).2 i k];rfl
end Go.Proofs.YtmmikiikddokgaaGreatDoor
