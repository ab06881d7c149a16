/- Laws for the proof. -/
import Derived.Test.YtfpmnekaockodaaGreatDoorU25
set_option linter.all false
open Go.Proofs.Tryz
open List renaming getD_eq_getElem?_getD->U,getElem?_eq_getElem->γ,ext_getElem->ε,getElem_set->ι,getElem?_replicate->ν,replicate->ξ,getElem_range->ο,getElem_take->π,getElem_map->ς,length_take->σ,mem_of_mem_take->υ
open Go.Value renaming slice->α,int->η
open Option renaming some->β,none->δ
open Go.Proofs.Tryz renaming prog->ζ
open Int renaming toNat_natCast->θ
open Go.RowKit.Below renaming refl->κ
open Nat renaming le_refl->μ,xor_assoc->ρ,zero_le->τ
namespace Go.Proofs.YtfpmnekaockodaaGreatDoor
open Go.RowKit Go.Sort
set_option maxRecDepth 4000
set_option maxHeartbeats 8000000
variable {rs:List (List Nat)}{ss bs:List ByteArray}{kn:List Nat}{w:World}
def jS(w:World)(n:Nat)(a:n<=1000000000):
  Own (w.alloc (.cells (madeCells #[η .u64 0] n) 265)) w.heap.size (α (β ⟨w.heap.size,0,δ⟩) n n) (BA n):=by
 refine⟨Iv n,⟨by simp[cellsU,BA],.inr ⟨w.heap.size,n,madeCells #[η .u64 0] n,by simp[BA],μ _,heap_alloc_new w _,by simp[BA],by unfold maxLen;omega,by simp[size_madeCells],?_⟩⟩⟩;rw[toList_madeCells_one,List.take_of_length_le (by simp[BA])];simp[cellsU,BA]
def jf(P n c p s:Nat)(hp:s=0->p=0)(f:p+s<=c)(w:World):
  (Instr.sliceAt 40 (α (β ⟨P,0,δ⟩) n c) (β (η .i64 (p:Int))) (β (η .i64 ((p+s:Nat):Int))) (β (η .i64 ((p+s:Nat):Int)))).run ζ w=.ok (α (β ⟨P,p,δ⟩) s s) w:=by
 have d:∀w:World,(sizeOf 265).run ζ w=.ok 1 w:=fun w=>by kernel_rfl
 rw[run_sliceAt_slice _ _ _ _ _ _ Mo,run_slice_lhm _ _ _ _ _ Mo _ _ _ _ _ _ (by omega) (by omega) (by omega) (by omega),Sv,d];simp only[Result.andThen,sliced,θ,Nat.mul_one,Nat.add_sub_cancel_left];by_cases a:s=0
 ·have:=hp a
  subst a;subst this;simp
 ·have e:¬p+s=p:=by omega
  rw[if_neg e];have b:(⟨P,0,δ⟩:Addr).add p=⟨P,p,δ⟩:=by
   unfold Addr.add;split
   ·rename_i h;simp_all
   ·simp
  simp[b]
def Gj(P s N k:Nat):List Value:=(List.range N).map fun i=>if i<k then α (β ⟨P,i*s,δ⟩) s s else α none 0 0
def dx(P s N:Nat):Gj P s N 0=ξ N (α none 0 0):=by
 apply ε
 ·simp[Gj]
 ·intro i a b;simp[Gj]
def RW(P s N k i:Nat)(a:i<N):(Gj P s N k)[i]? =β (if i<k then α (β ⟨P,i*s,δ⟩) s s else α none 0 0):=by
 simp[Gj,a]
def eX(P s N k:Nat)(d:k<N):(Gj P s N k).set k (α (β ⟨P,k*s,δ⟩) s s)=Gj P s N (k+1):=by
 apply ε
 ·simp[Gj]
 ·intro i b c
  rw[ι];by_cases e:k=i
  ·subst e;simp[Gj]
  ·rw[if_neg e]
   simp only[Gj,ς,ο];by_cases a:i<k
   ·rw[if_pos a,if_pos (by omega)]
   ·rw[if_neg a,if_neg (by omega)]
def Yx(N s:Nat)(w:World)(W:N<=100001)(hs:s<=4000):
  Calls ζ 287 #[η .i64 (N:Int),η .i64 (s:Int)] w fun e w'=>e=.returned (α (β ⟨w.heap.size+1,0,δ⟩) N N)/\AK w' w.heap.size w.heap.size (w.heap.size+1) s N (ξ N (BA s))/\Below w.heap.size w w':=by
 have hM:N*s<=400004000:=Nat.le_trans (Nat.mul_le_mul W hs) (by decide);obtain⟨M,b⟩:∃M,N*s=M:=⟨_,rfl⟩;have Z:wrap64 ((N:Int)*(s:Int))=(M:Int):=by
  have l:((N:Int)*(s:Int))=((N*s:Nat):Int):=by simp
  rw[l,b];unfold wrap64;omega
 obtain⟨i0,u,B,D,C⟩:=info_parts KX
 have ad:∀wx:World,(Instr.makeSlice 40 (η .i64 (M:Int)) (η .i64 (M:Int))).run ζ wx=.ok (α (β ⟨wx.heap.size,0,δ⟩) M M) (wx.alloc (.cells (madeCells #[η .u64 0] M) 265)):=fun wx=>by
  have:=run_make (P:=ζ) wx 40 265 i0 (η .u64 0) underlying40 u B .i64 .i64 (M:Int) (M:Int) (by omega) (Int.le_refl _) (by rw[C];omega) (by omega);rw[D]at this;simpa [Value.cells]using this
 obtain⟨i1,v,y,A,z⟩:=info_parts Mc
 have Y:∀wx:World,(Instr.makeSlice 260 (η .i64 (N:Int)) (η .i64 (N:Int))).run ζ wx=.ok (α (β ⟨wx.heap.size,0,δ⟩) N N) (wx.alloc (.cells (madeCells #[α none 0 0] N) 40)):=fun wx=>by
  have:=run_make (P:=ζ) wx 260 40 i1 (α none 0 0) underlying260 v y .i64 .i64 (N:Int) (N:Int) (by omega) (Int.le_refl _) (by rw[z];omega) (by omega);rw[A]at this;simpa [Value.cells]using this
 clear u B D C v y A z;have o:Below w.heap.size w (w.alloc (.cells (madeCells #[η .u64 0] M) 265)):=(κ _ _).alloc (μ _) _;have m:=jS w M (by omega);have T:=A7 w (.cells (madeCells #[η .u64 0] M) 265);have a:=qO (w.alloc (.cells (madeCells #[η .u64 0] M) 265)) N (by omega) _ rfl;have d:Below (w.alloc (.cells (madeCells #[η .u64 0] M) 265)).heap.size (w.alloc (.cells (madeCells #[η .u64 0] M) 265)) ((w.alloc (.cells (madeCells #[η .u64 0] M) 265)).alloc (.cells (madeCells #[α none 0 0] N) 40)):=(κ _ _).alloc (μ _) _;have I:=Ab (m.below d);have c:=a.top;rw[T,List.length_replicate,<-dx w.heap.size s N]at c;have J:=Ab c;have H:=Ab (Ad o d);clear o d m a c;have E:Hid (M=N*s):=b.symm;clear b hM;go_enter func287,ntmps287;go_wp2;go_loopw [17] (fun i wr=> ∃k:Nat,k<=N/\i=η .i64 k/\Hid (Own wr w.heap.size (α (β ⟨w.heap.size,0,δ⟩) M M) (BA M)/\wr.ownsRow (w.heap.size+1) 40 1 (α (β ⟨w.heap.size+1,0,δ⟩) N N) N (Gj w.heap.size s N k)/\Below w.heap.size w wr)) (fun i _=>N-(intOf i).toNat)
 case atStart=>exact⟨0,τ _,rfl,Ab ⟨Aa I,Aa J,Aa H⟩⟩
 case round=>
  obtain⟨k,hk,rfl,V⟩:=hrel;obtain⟨m,a,K⟩:=Aa V;by_cases f:k<N
  ·obtain⟨p,hp⟩:∃p,k*s=p:=⟨_,rfl⟩
   obtain⟨q,Q⟩:∃q,p+s=q:=⟨_,rfl⟩;have x:k*s+s<=N*s:=by
    have:=Nat.mul_le_mul_right s f;rw[Nat.succ_mul]at this;exact this
   have L:N*s<=400004000:=Nat.le_trans (Nat.mul_le_mul W hs) (by decide);have ab:wrap64 ((k:Int)*(s:Int))=(p:Int):=by
    have l:((k:Int)*(s:Int))=((k*s:Nat):Int):=by simp
    rw[l,hp];unfold wrap64;omega
   have ac:wrap64 (((k:Int)+1)*(s:Int))=(q:Int):=by
    have l:(((k:Int)+1)*(s:Int))=((k*s+s:Nat):Int):=by rw[Int.add_mul,Int.one_mul];simp
    rw[l,hp,Q];unfold wrap64;omega
   have S:=jf w.heap.size M M p s (fun e=>by rw[<-hp,e,Nat.mul_zero]) (by have h:=Aa E;rw[h,<-hp];exact x);rw[Q]at S;have O:wr.cell? ⟨w.heap.size+1,k,δ⟩=β (α none 0 0):=by
    rw[a.cellAt k (by omega),RW _ _ _ _ _ f,if_neg (by omega)]
   have aa:=a.frozenAt k;have g:=(a.stored k (α (β ⟨w.heap.size,p,δ⟩) s s)).1;rw[<-hp,eX _ _ _ _ f,hp]at g;have n:=m.kept (Bz wr (w.heap.size+1) k (α (β ⟨w.heap.size,p,δ⟩) s s)) (.inr (by show(β w.heap.size:Option Nat)≠β (w.heap.size+1);simp));have HN:=Ab (And.intro n (And.intro g (K.setCell (p:=⟨w.heap.size+1,k,δ⟩) (Nat.le_succ _) (α (β ⟨w.heap.size,p,δ⟩) s s))));clear m a K n g V I J H x L hp Q E;generalize w.heap.size+1=R at*;go_wp2;go_roundw
   case rel=>exact⟨k+1,by omega,by go_num,HN⟩
   case measure=>simp[intOf];omega
  ·obtain rfl:k=N:=by omega
   clear I J H;go_wp2;go_ret;refine⟨rfl,⟨BA M,⟨?_,by simp,fun i r=>?_⟩,?_,fun i r=>?_,by omega⟩,K⟩
   ·rw[Gl];exact Aa E
   ·have hg:(ξ k (BA s)).getD i []=BA s:=by rw[U,ν,if_pos r];rfl
    rw[hg];refine⟨Gl s,fun j X=>?_⟩;have l:=MP r X;have h2:=Aa E;unfold BA;rw[U,U,ν,ν,if_pos (by omega),if_pos X]
   ·rw[Gl];exact m
   ·rw[a.cellAt i (by omega),RW _ _ _ _ _ r,if_pos r]
def IntsAt.kept{w':World}{a:Option Addr}{n:Nat}{xs:List Nat}{row:Option Nat}(h:IntsAt w a n xs)(g:w.grownBy w' row)(d:n=0\/∀e,a=β e->β e.block≠row):IntsAt w' a n xs:=by
 refine⟨h.1,?_⟩;rcases h.2 with c|⟨b,off,rfl,f⟩
 ·exact .inl c
 ·rcases d with c|d
  ·exact .inl c
  ·exact .inr ⟨b,off,rfl,fun i j=>g.cell (f i j) (d ⟨b,off,δ⟩ rfl)⟩
def rB(rs:List (List Nat))(i:Nat):rs.set i (rs.getD i [])=rs:=by
 apply ε (by simp);intro j b a;rw[ι];split
 ·rename_i e;subst e;simp[U,γ a]
 ·rfl
def N6{B P R s N a k:Nat}{r:List Nat}(h:AK w B P R s N (rs.set a r))(g:a<N)(l:rs.length=N)(n:k<64*s):
  ∃x:Nat,w.cell? ⟨P,a*s+k/64,δ⟩=β (η .u64 (x:Int))/\x<18446744073709551616/\w.frozen? ⟨P,a*s+k/64,δ⟩=false/\
   AK (w.setCell ⟨P,a*s+k/64,δ⟩ (η .u64 ((setW x (k%64) true:Nat):Int))) B P R s N (rs.set a (By r k true)):=by
 have f:(rs.set a r).getD a []=r:=by rw[OJ rs a a r (by omega),if_pos rfl]
 obtain⟨c,m,i⟩:=h.row g;rw[f]at c;have d:k/64<s:=by omega
 obtain⟨b,off,e,j⟩:=c.at d;simp only[Option.some.injEq,Addr.mk.injEq,and_true]at e;obtain⟨rfl,rfl⟩:=e;refine⟨r.getD (k/64) 0,j _ d,c.2.1.get _,i _ d,?_⟩;have:=h.stored g d (setW (r.getD (k/64) 0) (k%64) true) (MM _ _ _ (c.2.1.get _) (by omega));rw[f,List.set_set]at this;exact this
def Wu(B P R s N g:Nat)(rs:List (List Nat))(L:Option Addr)(m c':Nat)(xs:List Nat)(W:Option Addr)(p cf:Nat)(fs:List Nat)(w:World)(h:AK w B P R s N rs)(hi:g<N)(O:RowAt w L m xs)
  (aa:m=0\/∀H,L=β H->β H.block≠β P) (Q:IntsAt w W p fs) (ab:p=0\/∀H,W=β H->β H.block≠β P) (Z:∀i,fs.getD i 0<=1000000000) (hn:p<=64*s) (hs:s<=4000) (hm:m<=1048576):
  Calls ζ 288 #[α (β ⟨P,g*s,δ⟩) s s,α L m c',α W p cf] w fun e w'=>e=.returned (.tuple #[])/\AK w' B P R s N (rs.set g (B9 (rs.getD g []) xs fs p))/\w.grownBy w' (β P):=by
 have ac:=h.len.1;have J:Hid (AK w B P R s N (rs.set g (B9 (rs.getD g []) xs fs 0))/\w.grownBy w (β P)):=Ab ⟨by show AK w B P R s N (rs.set g (rs.getD g []));rw[rB];exact h,Gn _ _⟩;have u:Hid (∀k,B9 (rs.getD g []) xs fs (k+1)=if Ah xs (fs.getD k 0)=true then By (B9 (rs.getD g []) xs fs k) k true else B9 (rs.getD g []) xs fs k):=fun _=>rfl;clear h;generalize rs.getD g []=r0 at*;obtain⟨S,y⟩:∃S,g*s=S:=⟨_,rfl⟩;have T:=Ab y;rw[y];clear y;go_enter func288,ntmps288;go_wp2;go_loopw [10] (fun i wr=> ∃k:Nat,k<=p/\i=η .i64 k/\Hid (AK wr B P R s N (rs.set g (B9 r0 xs fs k))/\w.grownBy wr (β P))) (fun i _=>p-(intOf i).toNat)
 case atStart=>exact⟨0,τ _,rfl,J⟩
 case round=>
  obtain⟨k,hk,rfl,V⟩:=hrel;obtain⟨C,v⟩:=Aa V;by_cases I:k<p
  ·obtain⟨b,off,rfl,X⟩:=(Q.kept v ab).at I
   have Y:=X k I;have hr:=O.kept v aa;have c:=MR L m c' xs ((fs.getD k 0:Nat):Int) wr hr hm (by have:=Z k;omega);rw[MA]at c;have a:=Aa u k;cases n:Ah xs (fs.getD k 0)with
   |false=>
    rw[n]at c a;rw[if_neg (by decide)]at a;rw[<-a]at C;have j:=Ab c;have HC:=Ab C;have D:=Ab v;clear C v c a X hr V J Q O n u;generalize fs.getD k 0=f at*;go_wp2_with fail;refine(Aa j).mono ?_;rintro e w1 ⟨rfl,d,r⟩;have l:Below wr.heap.size wr w1:=by rw[r];exact below_drewN (κ _ _) d
    have K:=Ab (And.intro ((Aa HC).below l) (Bx (Aa D) (CD l (β P)) (.inl rfl)));clear r l HC D j;go_wp2;go_roundw
    case rel=>exact⟨k+1,by omega,by go_num,K⟩
    case measure=>simp[intOf];omega
   |true=>
    rw[n]at c a;rw[if_pos rfl]at a;have E:=Ab (fun(w1:World) (l:Below wr.heap.size wr w1)=>N6 (C.below l) hi ac (show k<64*s by omega));have j:=Ab c;have D:=Ab v;have q:=Ab a;clear C v c a X hr V J Q O n u;generalize fs.getD k 0=f at*;go_wp2_with fail;refine(Aa j).mono ?_;rintro e w1 ⟨rfl,d,r⟩;have l:Below wr.heap.size wr w1:=by rw[r];exact below_drewN (κ _ _) d
    obtain⟨x,z,ae,A,o⟩:=Aa E w1 l;rw[Aa T]at z A o;have HX:=Ab (Po P S s s k x w1 (by omega) (by omega) z ae A);rw[<-Aa q]at o;have K:=Ab (And.intro o (Bx (Bx (Aa D) (CD l (β P)) (.inl rfl)) (Bz w1 P (S+k/64) (η .u64 ((setW x (k%64) true:Nat):Int))) (.inl rfl)));clear r l D j E z A o q;go_wp2_with fail;refine(Aa HX).mono ?_;rintro e w2 ⟨rfl,r⟩;rw[<-r]at K;clear r HX;go_wp2;go_roundw
    case rel=>exact⟨k+1,by omega,by go_num,K⟩
    case measure=>simp[intOf];omega
  ·obtain rfl:k=p:=by omega
   clear O Q J;go_wp2;go_end0;exact⟨rfl,C,v⟩
def iJ(a:Option Addr)(n c:Nat)(ps:List Nat)(Q:Option Addr)(m V:Nat)(xs:List Nat)(w:World)(h:IntsAt w a n ps)(L:RowAt w Q m xs)(Z:n<=100000)(X:m<=1048576):
  Calls ζ 290 #[α a n c,α Q m V] w fun e w'=> ∃v,e=.returned v/\AC w' w.heap.size v (chosenL ps (fun i=>Ah xs (n+i)) n)/\Below w.heap.size w w':=by
 have q:Hid (∀k,chosenL ps (fun i=>Ah xs (n+i)) (k+1)=if Ah xs (n+k)=true then chosenL ps (fun i=>Ah xs (n+i)) k++[ps.getD k 0]else chosenL ps (fun i=>Ah xs (n+i)) k):=fun _=>rfl;have r:=Ab (Ol ps (fun i=>Ah xs (n+i)));have J:Hid (AC w w.heap.size (α none 0 0) (chosenL ps (fun i=>Ah xs (n+i)) 0)):=AC.nil _ _;generalize g:chosenL ps (fun i=>Ah xs (n+i))=N at*;clear g;go_enter func290,ntmps290;go_wp2;go_loopw [5,10] (fun v i wr=> ∃k:Nat,k<=n/\i=η .i64 k/\∃C I c1,v=α C I c1/\Hid (AC wr w.heap.size (α C I c1) (N k))/\Hid (Below w.heap.size w wr)) (fun _ i _=>n-(intOf i).toNat)
 case atStart=>exact⟨0,τ _,rfl,δ,0,0,rfl,J,Ab (κ _ _)⟩
 case round=>
  obtain⟨k,Y,rfl,C,I,c1,rfl,B,K⟩:=hrel;have z:=Aa K;by_cases E:k<n
  ·obtain⟨b,off,rfl,R⟩:=(h.below z).at E
   have S:=R k E;have j:=MR Q m V xs ((n:Int)+(k:Int)) wr (L.below z) X (by omega);rw[show(n:Int)+(k:Int)=((n+k:Nat):Int) by simp,MA,show((n+k:Nat):Int)=(n:Int)+(k:Int) by simp]at j;have g:=Aa q k;have W:=Aa r k;cases u:Ah xs (n+k)with
   |false=>
    rw[u]at j g;rw[if_neg (by decide)]at g;have x:=B;rw[<-g]at x;have o:=Ab j;clear j g R B h L u q r J;generalize ps.getD k 0=f at*;go_wp2_with fail;refine(Aa o).mono ?_;rintro e w1 ⟨rfl,d,H⟩;have y:Below wr.heap.size wr w1:=by rw[H];exact below_drewN (κ _ _) d
    have p:=Ab ((Aa x).below y);have l:=Ab (Ad z y);clear H y x o z K;go_wp2;go_roundw
    case rel=>exact⟨k+1,by omega,by go_num,C,I,c1,rfl,p,l⟩
    case measure=>simp[intOf];omega
   |true=>
    rw[u]at j g;rw[if_pos rfl]at g;have A:=Ab g;have o:=Ab j;clear j g R h L u q r J;generalize ps.getD k 0=f at*;go_wp2_with fail;refine(Aa o).mono ?_;rintro e w1 ⟨rfl,d,H⟩;have y:Below wr.heap.size wr w1:=by rw[H];exact below_drewN (κ _ _) d
    have p:=Ab ((Aa B).below y);have l:=Ab (Ad z y);clear H y B o z K;have T:(N k).length<=1048576:=by omega
    go_wp2_with (first|(at_builtin;refine R5 rfl _ _ rfl w.heap.size (α C I c1) (N k) f rfl rfl (Aa p) (Aa l).size T ?_;intro s4 w4 s D;have O:=Ab ((Aa l).trans ((Aa p).grown D (Aa l).size));rw[<-Aa A]at s;obtain⟨a4,c4,rfl,_⟩:=s.ints;have P:=Ab s;clear D s p l A));go_roundw
    case rel=>exact⟨k+1,by omega,by go_num,a4,_,c4,rfl,P,O⟩
    case measure=>simp[intOf];omega
  ·obtain rfl:k=n:=by omega
   clear h L J q r;go_wp2;go_ret;exact⟨_,rfl,Aa B,Aa K⟩
def atR(a:List RV)(ps:List Nat):List RV:=ps.map fun i=>a.getD i .dflt
def Ht(a:List RV)(ps:List Nat):(atR a ps).length=ps.length:=by simp[atR]
def WF(b:List RV)(ps:List Nat)(k:Nat)(a:k<ps.length):(atR b ps).getD k .dflt=b.getD (ps.getD k 0) .dflt:=by
 unfold atR;rw[U,List.getElem?_map,γ a,U (l:=ps),γ a];rfl
def Ae.atR{a:List RV}{ps:List Nat}(h:Ae w a)(hp:∀i∈ps,i<a.length):Ae w (atR a ps):=fun r c=>by
 obtain⟨i,b,rfl⟩:=List.mem_map.1 c;exact h.get (hp i b)
def QL(a:Option Addr)(n c:Nat)(d:List RV)(L:Option Addr)(J Y:Nat)(ps:List Nat)(w:World)(h:Aj w a n d)(hp:IntsAt w L J ps)(P:∀i∈ps,i<n)(hn:n<=1048576)(A:J<=1048576):
  Calls ζ 284 #[α a n c,α L J Y] w fun e w'=> ∃v,e=.returned v/\Ak w' w.heap.size v (atR d ps)/\Below w.heap.size w w':=by
 obtain rfl:=hp.1;have X:=Ab h;have V:=Ab hp;have T:=Ab P;have ac:=Nd ps.length A;have K:=Ab (Nc w ps.length A (BK (atR d ps) 0) (by rw[OF,Ht]));have q:Hid (Below w.heap.size w (w.alloc (.cells (madeCells #[α none 0 0,.string ⟨#[]⟩] (ps.length*2)) 73))):=Ab ((κ _ _).alloc (μ _) _);clear h hp P;go_enter func284,ntmps284;go_wp2;go_loopw [13] (fun i wr=> ∃k:Nat,k<=ps.length/\i=η .i64 k/\Hid (Ak wr w.heap.size (α (β ⟨w.heap.size,0,δ⟩) ps.length ps.length) (BK (atR d ps) k))/\Hid (Below w.heap.size w wr)) (fun i _=>ps.length-(intOf i).toNat)
 case atStart=>exact⟨0,τ _,rfl,K,q⟩
 case round=>
  obtain⟨k,hk,rfl,C,o⟩:=hrel;clear K q;by_cases f:k<ps.length
  ·obtain⟨bp,S,rfl,g⟩:=((Aa V).below (Aa o)).at f
   have ab:=g k f;have B:ps.getD k 0<n:=Aa T _ (by rw[U,γ f];exact List.getElem_mem f);obtain⟨b,off,rfl,x⟩:=((Aa X).below (Aa o)).at B;obtain⟨Z,aa⟩:=x _ B;have Q:(k:Int)<(ps.length:Int):=by omega
   have I:=OE (atR d ps) k (by rw[Ht];exact f);rw[WF d ps k f]at I;generalize ps.getD k 0=p at*;have R:(p:Int)<(n:Int):=by omega
   generalize d.getD p .dflt=r at*;have u:=Aa C;have y:(BK (atR d ps) k).length=ps.length:=by rw[NR _ _ (by rw[Ht];exact hk),Ht]
   have l:=In (BK (atR d ps) k) k (by omega);have D:=u.cellAt l.1;have E:=u.cellAt l.2;have j:wr.ownsRow w.heap.size 73 2 (α (β ⟨w.heap.size,0,δ⟩) ps.length ps.length) ps.length (cellsR (BK (atR d ps) k)):=by
    have:wr.ownsRow w.heap.size 73 2 (α (β ⟨w.heap.size,0,δ⟩) ps.length ps.length) (BK (atR d ps) k).length (cellsR (BK (atR d ps) k)):=u;rwa[y]at this
   have N:=j.frozenAt (k*2);have O:=j.frozenAt (k*2+1);have m:=u.stored k r;rw[I]at m;have W:=Ab m;have H:=Ab (((Aa o).setCell (p:=⟨w.heap.size,k*2,δ⟩) (μ _) (.slice r.a r.n r.c)).setCell (p:=⟨w.heap.size,k*2+1,δ⟩) (μ _) (.string r.s));clear x g u j m I l y C o;generalize (BK (atR d ps) k).getD k .dflt=z at*;go_wp2;go_roundw
   case rel=>exact⟨k+1,by omega,by go_num,W,H⟩
   case measure=>simp[intOf];omega
  ·obtain rfl:k=ps.length:=by omega
   rw[show ps.length=(atR d ps).length from(Ht d ps).symm,Pv,Ht]at C;go_wp2;go_ret;exact⟨_,rfl,Aa C,Aa o⟩
def Un:Tryz.prog.underlying 260=β (.slice (Tryz.prog.elem 260)):=by kernel_rfl
def gR:Tryz.prog.elem 260=40:=by kernel_rfl
def nP(b off n c q:Nat)(a:q<=c)(w:World):
  (Instr.sliceAt 260 (α (β ⟨b,off,δ⟩) n c) none (β (η .i64 (q:Int))) none).run ζ w=.ok (α (β ⟨b,off,δ⟩) q c) w:=by
 rw[run_sliceAt_slice _ _ _ _ _ _ Un,run_slice_h _ _ _ _ _ Un _ _ (by omega) (by omega),gR,oJ];simp[Result.andThen,sliced,Addr.add]
def IntsAt.lt{a:Option Addr}{n:Nat}{xs:List Nat}(h:IntsAt w a n xs):n=0\/∀c,a=β c->c.block<w.heap.size:=by
 rcases h.2 with d|⟨b,off,rfl,f⟩
 ·exact .inl d
 ·by_cases d:n=0
  ·exact .inl d
  ·right
   intro c e;simp only[Option.some.injEq]at e;subst e;exact World.block_lt_of_cell? w _ (f 0 (by omega))
def sizeL(n:Nat):Nat:=(2*n+63)/64
def Ja(rs:List (List Nat))(ps fs:List Nat)(s i:Nat):List Nat:=By (B9 (BA s) (rs.getD (ps.getD i 0) []) fs ps.length) (ps.length+i) true
def BH(rs:List (List Nat))(ps fs:List Nat)(s k:Nat):List (List Nat):=(List.range (ps.length+1)).map fun i=>if i<k then Ja rs ps fs s i else BA s
def OB(rs:List (List Nat))(ps fs:List Nat)(s k:Nat):(BH rs ps fs s k).length=ps.length+1:=by simp[BH]
def OA(rs:List (List Nat))(ps fs:List Nat)(s k i:Nat)(a:i<ps.length+1):(BH rs ps fs s k).getD i []=if i<k then Ja rs ps fs s i else BA s:=by
 simp[BH,U,a]
def jV(rs:List (List Nat))(ps fs:List Nat)(s:Nat):BH rs ps fs s 0=ξ (ps.length+1) (BA s):=by
 apply ε
 ·simp[BH]
 ·intro i a b;simp[BH]
def lu(rs:List (List Nat))(ps fs:List Nat)(s k:Nat)(d:k<ps.length+1):(BH rs ps fs s k).set k (Ja rs ps fs s k)=BH rs ps fs s (k+1):=by
 apply ε
 ·simp[BH]
 ·intro i b c
  rw[ι];by_cases e:k=i
  ·subst e;simp[BH]
  ·rw[if_neg e]
   simp only[BH,ς,ο];by_cases a:i<k
   ·rw[if_pos a,if_pos (by omega)]
   ·rw[if_neg a,if_neg (by omega)]
def RH(rs:List (List Nat))(ps fs:List Nat)(s i:Nat):Ac (Ja rs ps fs s i):=N8 (I1 (Iv s) _ _ _) _ _
def R8(rs:List (List Nat))(ps fs:List Nat)(s i:Nat):(Ja rs ps fs s i).length=s:=by unfold Ja;rw[Iu,IB,Gl]
def lr(rs:List (List Nat))(ps fs:List Nat)(s k j:Nat)(q:List Nat)(c:Ac q)(d:q.length=s)(M:Nat)(b:s<=M):Ay M (((BH rs ps fs s k).set j q).take k):=by
 intro x a;rcases List.mem_or_eq_of_mem_set (υ a)with a|rfl
 ·obtain⟨i,_,rfl⟩:=List.mem_map.1 a
  split
  ·exact⟨RH _ _ _ _ _,by rw[R8];exact b⟩
  ·exact⟨Iv s,by rw[Gl];exact b⟩
 ·exact⟨c,by omega⟩
def Tg(rs:List (List Nat))(ps fs:List Nat)(s:Nat)(q:List Nat):((BH rs ps fs s ps.length).set ps.length q).take ps.length=(BH rs ps fs s ps.length).take ps.length:=by
 apply ε
 ·simp
 ·intro i b a
  have c:i<ps.length:=by
   rw[σ]at a;omega
  rw[π,π,ι,if_neg (by omega)]
def exprL(rs:List (List Nat))(xs:List Nat):List Nat:=
 chosenL (keepL rs rs.length) (fun i=>Ah (reduceL (broughtL ((BH rs (keepL rs rs.length) (CW (broughtL rs)) (sizeL (keepL rs rs.length).length) (keepL rs rs.length).length).take (keepL rs rs.length).length))
  (B9 (BA (sizeL (keepL rs rs.length).length)) xs (CW (broughtL rs)) (keepL rs rs.length).length)) ((keepL rs rs.length).length+i)) (keepL rs rs.length).length
def Xv(n:Nat):2*n<=64*sizeL n:=by unfold sizeL;omega
def Xu(n:Nat)(h:n<=100000):sizeL n<=4000:=by unfold sizeL;omega
def ed{M:Nat}(h:Ay M rs)(i:Nat)(c:i<(broughtL rs).length):0<=firstI ((broughtL rs).getD i []):=by
 have a:=(Fg h).getD i;have b:val ((broughtL rs).getD i [])≠0:=by
  refine(Kw h).1 _ (List.mem_map.2 ⟨_,?_,rfl⟩);simp[U,γ c]
 rw[Io a.1,if_neg b];omega
def fu{M:Nat}(h:Ay M rs):CW (broughtL rs)=(broughtL rs).map fun b=>Ech.low (val b):=by
 unfold CW;apply List.map_congr_left;intro b a;have c:=(Fg h) b a;have d:val b≠0:=(Kw h).1 _ (List.mem_map.2 ⟨b,a,rfl⟩);rw[Io c.1,if_neg d];rfl
def eU(h:Ay 1048576 rs)(i:Nat):(CW (broughtL rs)).getD i 0<=1000000000:=by
 by_cases b:i<(broughtL rs).length
 ·rw[NU _ i b]
  have a:=(Fg h).getD i;have:=TL a.1;omega
 ·rw[Ge (by rw[It];omega)]
  omega
def eA(rs:List (List Nat)):(broughtL rs).length=(keepL rs rs.length).length:=by rw[ND rs _ (μ _),List.take_length]
def NQ(e:Ay 1048576 rs)(m:rs.length<=100000){xs:List Nat}(d:Ac xs){c:Nat}(f:Cb rs xs c):exprL rs xs=chosenL (keepL rs rs.length) (fun i=>c.testBit i) (keepL rs rs.length).length:=by
 have g:=GL rs rs.length;have h:=Xv (keepL rs rs.length).length;have a:=Xu (keepL rs rs.length).length (by omega);unfold exprL;refine RU _ _ fun i l=>?_;refine eO e (M':=4000) (fs:=CW (broughtL rs)) (fu e) ?_ ?_ ?_ (I1 (Iv _) _ _ _) (rI d (by omega)) (by rw[IB,Gl];exact a) f i
 ·rw[σ,OB];omega
 ·rw[<-Tg _ _ _ _ []]
  intro x d;have k:=υ d;obtain⟨j,b,rfl⟩:=List.getElem_of_mem d;rw[σ,List.length_set,OB]at b;rw[π,ι,if_neg (by omega)];simp only[BH,ς,ο];split
  ·exact⟨RH _ _ _ _ _,by rw[R8];exact a⟩
  ·exact⟨Iv _,by rw[Gl];exact a⟩
 ·intro j b
  rw[U,List.getElem?_take_of_lt b,<-U,OA _ _ _ _ _ _ (by omega),if_pos b];exact qP (e.getD _).1 (by omega) (by omega)
def exL(rs:List (List Nat))(xs:List Nat):List Nat:=if firstI (reduceL (broughtL rs) xs)<0 then exprL rs xs else []
def Cp(f:Nat->Nat)(vs:List Nat):Nat->Nat
 |0=>0
 |n+1=>if Ah vs n then Cp f vs n^^^f n else Cp f vs n
def K2(ss:List ByteArray)(vs:List Nat)(i:Nat):∀n,(Bl ss vs n).getD i 0=Cp (fun b=>(tx (ss.getD b ByteArray.empty)).getD i 0) vs n
 |0=>by simp[Bl,Cp]
 |n+1=>by
  unfold Bl Cp;split
  ·rw[Do,K2 ss vs i n]
  ·exact K2 ss vs i n
def UI{f g:Nat->Nat}{xs kn:List Nat}(c:∀b,Ah kn b=true->g b=f b)(d:∀b,Ah kn b=false->g b=0):∀n,Cp f xs n^^^Cp g xs n=Cp f (dropL xs kn) n
 |0=>by simp[Cp]
 |n+1=>by
  have a:=UI (xs:=xs) c d n;unfold Cp;rw[Hk];cases h:Ah xs n
  ·simpa using a
  ·cases e:Ah kn n
   ·rw[d n e]
    simp only[Bool.not_false,Bool.and_true,if_true,Nat.xor_zero];rw[<-a,ρ,Nat.xor_comm (f n),<-ρ]
   ·rw[c n e]
    simp only[Bool.not_true,Bool.and_false,if_true,Bool.false_eq_true,if_false];rw[<-a,ρ,Nat.xor_comm (f n),ρ,Nat.xor_self,Nat.xor_zero]
def MY{f:Nat->Nat}{vs:List Nat}{b:Nat}(h:∀i,Ah vs i=decide (i=b)):∀n,Cp f vs n=if b<n then f b else 0
 |0=>by simp[Cp]
 |n+1=>by
  unfold Cp;rw[MY h n,h n];by_cases e:n=b
  ·subst e
   rw[decide_eq_true rfl,if_pos rfl,if_neg (by omega),if_pos (by omega)];exact Nat.zero_xor _
  ·rw[decide_eq_false e,if_neg (by simp)]
   by_cases a:b<n
   ·rw[if_pos a,if_pos (by omega)]
   ·rw[if_neg a,if_neg (by omega)]
def Ku{vs:List Nat}{s:ByteArray}:DK ss vs s=true↔(∀i,Cp (fun b=>(tx (ss.getD b ByteArray.empty)).getD i 0) vs ss.length=(tx s).getD i 0)/\∀i,ss.length<=i->Ah vs i=false:=by
 rw[jC,nU];refine and_congr_left fun _=>?_;constructor
 ·intro h i
  have:=h i;rw[MN,Do,Dv (I4 _ _ _),K2]at this;exact Ech.eq_of_xor this
 ·intro h i
  rw[MN,Do,Dv (I4 _ _ _),K2,h i,Nat.xor_self]
def Rh(ss:List ByteArray)(kn:List Nat)(bs:List ByteArray):Prop:=∀b,Ah kn b=true->∀i,(tx (bs.getD b ByteArray.empty)).getD i 0=(tx (ss.getD b ByteArray.empty)).getD i 0
def Wc{j:Nat}(c:Kn (ss.length:Int) j kn bs)(e:Rh ss kn bs){xs:List Nat}{s:ByteArray}(h:DK ss xs s=true)(i:Nat):
  (tx (Dw bs xs s)).getD i 0=Cp (fun b=>(tx (ss.getD b ByteArray.empty)).getD i 0) (dropL xs kn) ss.length:=by
 unfold Dw;have d:=c.lenb;rw[θ]at d;rw[MN,Do,Dv (I4 _ _ _),K2,d,<-(Ku.1 h).1 i];refine UI (fun b a=>e b a i) (fun b a=>?_) _;show(tx (bs.getD b ByteArray.empty)).getD i 0=0;rw[c.none b a];rfl
def Run.truth{ss:List ByteArray}{rs:List RV}(n:0<sizeOfK (ss.length:Int))(m:Dx rs)(q:∀r∈rs,DK ss r.xs r.s=true):∀{j:Nat} {kn:List Nat} {bs:List ByteArray},Run (ss.length:Int) rs j kn bs->Rh ss kn bs
 |0,kn,bs,⟨g,k⟩=>fun b f=>by rw[g,Jx]at f;cases f
 |j+1,kn,bs,⟨o,v,r,g,k,x,y⟩=>by
  have l:=Run.known n m g;have p:=Run.truth n m q g;have u:=List.mem_of_find?_eq_some k;obtain⟨C,a,A,B,c,z⟩:=KO (m r u).1 (List.find?_some k);have d:=DV n;rw[θ]at c d;subst x y;intro b f i;rw[Iy _ _ _ _ (by rw[l.len];omega)]at f;rw[Kq];by_cases e:b=blkOf o r
  ·rw[if_pos ⟨e,by rw[l.lenb,θ];exact c⟩,Wc l p (q r u),MY a,if_pos c,e]
  ·rw[if_neg e]at f
   rw[if_neg (fun h=>e h.1)];exact p b f i
def ni{rs:List RV}(e:AN (ss.length:Int) rs kn bs)(g:Dx rs)(l:∀r∈rs,DK ss r.xs r.s=true):∀x∈toldTo (ss.length:Int) kn bs (ss.length:Int).toNat,DK ss x.1 x.2=true:=by
 intro x d;by_cases m:sizeOfK (ss.length:Int)=0
 ·obtain⟨n,o,_⟩:=I0 (rs:=rs) m
  obtain⟨rfl,rfl⟩:=e.uniq n;rw[o]at d;cases d
 ·obtain⟨⟨j,h⟩,_⟩:=e
  have a:=Run.known (by omega) g h;have k:=Run.truth (by omega) g l h;obtain⟨b,f,c,rfl⟩:=Iw a d;rw[θ]at f;refine Ku.2 ⟨fun i=>?_,fun i p=>?_⟩
  ·rw[MY (I7 a.size (by omega)),if_pos f]
   exact(k b c i).symm
  ·rw[I7 a.size (by omega),decide_eq_false (by omega)]
def nh{rs:List RV}(c:AN (ss.length:Int) rs kn bs)(d:Dx rs)(b:∀r∈rs,DK ss r.xs r.s=true):∀x∈restL (ss.length:Int) rs kn bs,DK ss x.1 x.2=true:=by
 intro x a;by_cases m:sizeOfK (ss.length:Int)=0
 ·obtain⟨n,_,o⟩:=I0 (rs:=rs) m
  obtain⟨rfl,rfl⟩:=c.uniq n;rw[o]at a;cases a
 ·obtain⟨⟨j,e⟩,_⟩:=c
  have g:=Run.known (by omega) d e;have h:=Run.truth (by omega) d b e;unfold restL at a;rw[List.mem_map]at a;obtain⟨r,l,rfl⟩:=a;have f:=(List.mem_filter.1 l).1;refine Ku.2 ⟨fun i=>(Wc g h (b r f) i).symm,fun i k=>?_⟩;show Ah (dropL r.xs kn) i=false;rw[Hk,(Ku.1 (b r f)).2 i k];rfl
end Go.Proofs.YtfpmnekaockodaaGreatDoor
