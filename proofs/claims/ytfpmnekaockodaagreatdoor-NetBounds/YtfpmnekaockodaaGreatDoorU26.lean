/- Laws for the proof. -/
import Derived.Test.YtfpmnekaockodaaGreatDoorU25
namespace Go.Proofs.YtfpmnekaockodaaGreatDoor
open Go.RowKit Go.Sort
set_option linter.all false
set_option maxRecDepth 4000
set_option maxHeartbeats 8000000
variable {rs:List (List Nat)}{ss bs:List ByteArray}{kn:List Nat}{cs:List Value}{n:Nat}{w:World}
theorem jA(w:World)(n:Nat)(a:n<=1000000000):
  Own (w.alloc (.cells (madeCells #[.int .u64 0] n) 265)) w.heap.size (.slice (some ⟨w.heap.size,0,none⟩) n n) (BG n):=by
 refine⟨It n,⟨by simp[cellsU,BG],.inr ⟨w.heap.size,n,madeCells #[.int .u64 0] n,by simp[BG],Nat.le_refl _,heap_alloc_new w _,by simp[BG],by unfold maxLen;omega,by simp[size_madeCells],?_⟩⟩⟩;rw[toList_madeCells_one,List.take_of_length_le (by simp[BG])];simp[cellsU,BG]
theorem jw(P n c p s:Nat)(hp:s=0->p=0)(f:p+s<=c)(w:World):
  (Instr.sliceAt 40 (.slice (some ⟨P,0,none⟩) n c) (some (.int .i64 (p:Int))) (some (.int .i64 ((p+s:Nat):Int))) (some (.int .i64 ((p+s:Nat):Int)))).run Tryz.prog w=.ok (.slice (some ⟨P,p,none⟩) s s) w:=by
 have d:∀w:World,(sizeOf 265).run Tryz.prog w=.ok 1 w:=fun w=>by kernel_rfl
 rw[run_sliceAt_slice _ _ _ _ _ _ Mq,run_slice_lhm _ _ _ _ _ Mq _ _ _ _ _ _ (by omega) (by omega) (by omega) (by omega),Sj,d];simp only[Result.andThen,sliced,Int.toNat_natCast,Nat.mul_one,Nat.add_sub_cancel_left];by_cases a:s=0
 ·have:=hp a
  subst a;subst this;simp
 ·have e:¬p+s=p:=by omega
  rw[if_neg e];have b:(⟨P,0,none⟩:Addr).add p=⟨P,p,none⟩:=by
   unfold Addr.add;split
   ·rename_i h;simp_all
   ·simp
  simp[b]
def Gk(P s N k:Nat):List Value:=(List.range N).map fun i=>if i<k then .slice (some ⟨P,i*s,none⟩) s s else .slice none 0 0
theorem dP(P s N:Nat):Gk P s N 0=List.replicate N (.slice none 0 0):=by
 apply List.ext_getElem
 ·simp[Gk]
 ·intro i a b;simp[Gk]
theorem RT(P s N k i:Nat)(a:i<N):(Gk P s N k)[i]? =some (if i<k then .slice (some ⟨P,i*s,none⟩) s s else .slice none 0 0):=by
 simp[Gk,a]
theorem eC(P s N k:Nat)(d:k<N):(Gk P s N k).set k (.slice (some ⟨P,k*s,none⟩) s s)=Gk P s N (k+1):=by
 apply List.ext_getElem
 ·simp[Gk]
 ·intro i b c
  rw[List.getElem_set];by_cases e:k=i
  ·subst e;simp[Gk]
  ·rw[if_neg e]
   simp only[Gk,List.getElem_map,List.getElem_range];by_cases a:i<k
   ·rw[if_pos a,if_pos (by omega)]
   ·rw[if_neg a,if_neg (by omega)]
theorem YO(N s:Nat)(w:World)(X:N<=100001)(hs:s<=4000):
  Calls Tryz.prog 287 #[.int .i64 (N:Int),.int .i64 (s:Int)] w fun e w'=>e=.returned (.slice (some ⟨w.heap.size+1,0,none⟩) N N)/\AI w' w.heap.size w.heap.size (w.heap.size+1) s N (List.replicate N (BG s))/\Below w.heap.size w w':=by
 have hM:N*s<=400004000:=Nat.le_trans (Nat.mul_le_mul X hs) (by decide);obtain⟨M,b⟩:∃M,N*s=M:=⟨_,rfl⟩;have aa:wrap64 ((N:Int)*(s:Int))=(M:Int):=by
  have l:((N:Int)*(s:Int))=((N*s:Nat):Int):=by simp
  rw[l,b];unfold wrap64;omega
 obtain⟨i0,v,C,E,D⟩:=info_parts KV
 have ae:∀wx:World,(Instr.makeSlice 40 (.int .i64 (M:Int)) (.int .i64 (M:Int))).run Tryz.prog wx=.ok (.slice (some ⟨wx.heap.size,0,none⟩) M M) (wx.alloc (.cells (madeCells #[.int .u64 0] M) 265)):=fun wx=>by
  have:=run_make (P:=Tryz.prog) wx 40 265 i0 (.int .u64 0) Tryz.underlying40 v C .i64 .i64 (M:Int) (M:Int) (by omega) (Int.le_refl _) (by rw[D];omega) (by omega);rw[E]at this;simpa [Value.cells]using this
 obtain⟨i1,x,z,B,A⟩:=info_parts Md
 have Z:∀wx:World,(Instr.makeSlice 260 (.int .i64 (N:Int)) (.int .i64 (N:Int))).run Tryz.prog wx=.ok (.slice (some ⟨wx.heap.size,0,none⟩) N N) (wx.alloc (.cells (madeCells #[.slice none 0 0] N) 40)):=fun wx=>by
  have:=run_make (P:=Tryz.prog) wx 260 40 i1 (.slice none 0 0) Tryz.underlying260 x z .i64 .i64 (N:Int) (N:Int) (by omega) (Int.le_refl _) (by rw[A];omega) (by omega);rw[B]at this;simpa [Value.cells]using this
 clear v C E D x z B A;have r:Below w.heap.size w (w.alloc (.cells (madeCells #[.int .u64 0] M) 265)):=(Below.refl _ _).alloc (Nat.le_refl _) _;have m:=jA w M (by omega);have V:=Bc w (.cells (madeCells #[.int .u64 0] M) 265);have a:=pm (w.alloc (.cells (madeCells #[.int .u64 0] M) 265)) N (by omega) _ rfl;have d:Below (w.alloc (.cells (madeCells #[.int .u64 0] M) 265)).heap.size (w.alloc (.cells (madeCells #[.int .u64 0] M) 265)) ((w.alloc (.cells (madeCells #[.int .u64 0] M) 265)).alloc (.cells (madeCells #[.slice none 0 0] N) 40)):=(Below.refl _ _).alloc (Nat.le_refl _) _;have J:=Ab (m.below d);have c:=a.top;rw[V,List.length_replicate,<-dP w.heap.size s N]at c;have K:=Ab c;have I:=Ab (Ad r d);clear r d m a c;have H:Hid (M=N*s):=b.symm;clear b hM;go_enter Tryz.func287,Tryz.ntmps287;go_wp2;go_loopw [17] (fun i wr=> ∃k:Nat,k<=N/\i=.int .i64 k/\Hid (Own wr w.heap.size (.slice (some ⟨w.heap.size,0,none⟩) M M) (BG M)/\wr.ownsRow (w.heap.size+1) 40 1 (.slice (some ⟨w.heap.size+1,0,none⟩) N N) N (Gk w.heap.size s N k)/\Below w.heap.size w wr)) (fun i _=>N-(intOf i).toNat)
 case atStart=>exact⟨0,Nat.zero_le _,rfl,Ab ⟨Aa J,Aa K,Aa I⟩⟩
 case round=>
  obtain⟨k,hk,rfl,W⟩:=hrel;obtain⟨m,a,L⟩:=Aa W;by_cases f:k<N
  ·obtain⟨p,hp⟩:∃p,k*s=p:=⟨_,rfl⟩
   obtain⟨q,S⟩:∃q,p+s=q:=⟨_,rfl⟩;have y:k*s+s<=N*s:=by
    have:=Nat.mul_le_mul_right s f;rw[Nat.succ_mul]at this;exact this
   have O:N*s<=400004000:=Nat.le_trans (Nat.mul_le_mul X hs) (by decide);have ac:wrap64 ((k:Int)*(s:Int))=(p:Int):=by
    have l:((k:Int)*(s:Int))=((k*s:Nat):Int):=by simp
    rw[l,hp];unfold wrap64;omega
   have ad:wrap64 (((k:Int)+1)*(s:Int))=(q:Int):=by
    have l:(((k:Int)+1)*(s:Int))=((k*s+s:Nat):Int):=by rw[Int.add_mul,Int.one_mul];simp
    rw[l,hp,S];unfold wrap64;omega
   have T:=jw w.heap.size M M p s (fun e=>by rw[<-hp,e,Nat.mul_zero]) (by have h:=Aa H;rw[h,<-hp];exact y);rw[S]at T;have Q:wr.cell? ⟨w.heap.size+1,k,none⟩=some (.slice none 0 0):=by
    rw[a.cellAt k (by omega),RT _ _ _ _ _ f,if_neg (by omega)]
   have ab:=a.frozenAt k;have g:=(a.stored k (.slice (some ⟨w.heap.size,p,none⟩) s s)).1;rw[<-hp,eC _ _ _ _ f,hp]at g;have o:=m.kept (BF wr (w.heap.size+1) k (.slice (some ⟨w.heap.size,p,none⟩) s s)) (.inr (by show(some w.heap.size:Option Nat)≠some (w.heap.size+1);simp));have HN:=Ab (And.intro o (And.intro g (L.setCell (p:=⟨w.heap.size+1,k,none⟩) (Nat.le_succ _) (.slice (some ⟨w.heap.size,p,none⟩) s s))));clear m a L o g W J K I y O hp S H;generalize w.heap.size+1=R at*;go_wp2;go_roundw
   case rel=>exact⟨k+1,by omega,by go_num,HN⟩
   case measure=>simp[intOf];omega
  ·obtain rfl:k=N:=by omega
   clear J K I;go_wp2;go_ret;refine⟨rfl,⟨BG M,⟨?_,by simp,fun i u=>?_⟩,?_,fun i u=>?_,by omega⟩,L⟩
   ·rw[Gm];exact Aa H
   ·have hg:(List.replicate k (BG s)).getD i []=BG s:=by rw[List.getD_eq_getElem?_getD,List.getElem?_replicate,if_pos u];rfl
    rw[hg];refine⟨Gm s,fun j Y=>?_⟩;have l:=ML u Y;have h2:=Aa H;unfold BG;rw[List.getD_eq_getElem?_getD,List.getD_eq_getElem?_getD,List.getElem?_replicate,List.getElem?_replicate,if_pos (by omega),if_pos Y]
   ·rw[Gm];exact m
   ·rw[a.cellAt i (by omega),RT _ _ _ _ _ u,if_pos u]
theorem IntsAt.kept{w':World}{a:Option Addr}{xs:List Nat}{row:Option Nat}(h:IntsAt w a n xs)(g:w.grownBy w' row)(d:n=0\/∀e,a=some e->some e.block≠row):IntsAt w' a n xs:=by
 refine⟨h.1,?_⟩;rcases h.2 with c|⟨b,off,rfl,f⟩
 ·exact .inl c
 ·rcases d with c|d
  ·exact .inl c
  ·exact .inr ⟨b,off,rfl,fun i j=>g.cell (f i j) (d ⟨b,off,none⟩ rfl)⟩
theorem rL(rs:List (List Nat))(i:Nat):rs.set i (rs.getD i [])=rs:=by
 apply List.ext_getElem (by simp);intro j b a;rw[List.getElem_set];split
 ·rename_i e;subst e;simp[List.getD_eq_getElem?_getD,List.getElem?_eq_getElem a]
 ·rfl
theorem N7{B P R s N a k:Nat}{r:List Nat}(h:AI w B P R s N (rs.set a r))(g:a<N)(l:rs.length=N)(o:k<64*s):
  ∃x:Nat,w.cell? ⟨P,a*s+k/64,none⟩=some (.int .u64 (x:Int))/\x<18446744073709551616/\w.frozen? ⟨P,a*s+k/64,none⟩=false/\
   AI (w.setCell ⟨P,a*s+k/64,none⟩ (.int .u64 ((setW x (k%64) true:Nat):Int))) B P R s N (rs.set a (BE r k true)):=by
 have f:(rs.set a r).getD a []=r:=by rw[OJ rs a a r (by omega),if_pos rfl]
 obtain⟨c,m,i⟩:=h.row g;rw[f]at c;have d:k/64<s:=by omega
 obtain⟨b,off,e,j⟩:=c.at d;simp only[Option.some.injEq,Addr.mk.injEq,and_true]at e;obtain⟨rfl,rfl⟩:=e;refine⟨r.getD (k/64) 0,j _ d,c.2.1.get _,i _ d,?_⟩;have:=h.stored g d (setW (r.getD (k/64) 0) (k%64) true) (MZ _ _ _ (c.2.1.get _) (by omega));rw[f,List.set_set]at this;exact this
theorem Wg(B P R s N g:Nat)(rs:List (List Nat))(O:Option Addr)(m c':Nat)(xs:List Nat)(X:Option Addr)(q cf:Nat)(fs:List Nat)(w:World)(h:AI w B P R s N rs)(hi:g<N)(Q:RowAt w O m xs)
  (ab:m=0\/∀I,O=some I->some I.block≠some P) (S:IntsAt w X q fs) (ac:q=0\/∀I,X=some I->some I.block≠some P) (aa:∀i,fs.getD i 0<=1000000000) (hn:q<=64*s) (hs:s<=4000) (hm:m<=1048576):
  Calls Tryz.prog 288 #[.slice (some ⟨P,g*s,none⟩) s s,.slice O m c',.slice X q cf] w fun e w'=>e=.returned (.tuple #[])/\AI w' B P R s N (rs.set g (Cf (rs.getD g []) xs fs q))/\w.grownBy w' (some P):=by
 have ae:=h.len.1;have K:Hid (AI w B P R s N (rs.set g (Cf (rs.getD g []) xs fs 0))/\w.grownBy w (some P)):=Ab ⟨by show AI w B P R s N (rs.set g (rs.getD g []));rw[rL];exact h,Gn _ _⟩;have v:Hid (∀k,Cf (rs.getD g []) xs fs (k+1)=if Ai xs (fs.getD k 0)=true then BE (Cf (rs.getD g []) xs fs k) k true else Cf (rs.getD g []) xs fs k):=fun _=>rfl;clear h;generalize rs.getD g []=r0 at*;obtain⟨T,z⟩:∃T,g*s=T:=⟨_,rfl⟩;have V:=Ab z;rw[z];clear z;go_enter Tryz.func288,Tryz.ntmps288;go_wp2;go_loopw [10] (fun i wr=> ∃k:Nat,k<=q/\i=.int .i64 k/\Hid (AI wr B P R s N (rs.set g (Cf r0 xs fs k))/\w.grownBy wr (some P))) (fun i _=>q-(intOf i).toNat)
 case atStart=>exact⟨0,Nat.zero_le _,rfl,K⟩
 case round=>
  obtain⟨k,hk,rfl,W⟩:=hrel;obtain⟨D,y⟩:=Aa W;by_cases J:k<q
  ·obtain⟨b,off,rfl,Y⟩:=(S.kept y ac).at J
   have Z:=Y k J;have hr:=Q.kept y ab;have c:=MR O m c' xs ((fs.getD k 0:Nat):Int) wr hr hm (by have:=aa k;omega);rw[MB]at c;have a:=Aa v k;cases o:Ai xs (fs.getD k 0)with
   |false=>
    rw[o]at c a;rw[if_neg (by decide)]at a;rw[<-a]at D;have j:=Ab c;have HC:=Ab D;have E:=Ab y;clear D y c a Y hr W K S Q o v;generalize fs.getD k 0=f at*;go_wp2_with fail;refine(Aa j).mono ?_;rintro e w1 ⟨rfl,d,u⟩;have l:Below wr.heap.size wr w1:=by rw[u];exact below_drewN (Below.refl _ _) d
    have L:=Ab (And.intro ((Aa HC).below l) (BD (Aa E) (CN l (some P)) (.inl rfl)));clear u l HC E j;go_wp2;go_roundw
    case rel=>exact⟨k+1,by omega,by go_num,L⟩
    case measure=>simp[intOf];omega
   |true=>
    rw[o]at c a;rw[if_pos rfl]at a;have H:=Ab (fun(w1:World) (l:Below wr.heap.size wr w1)=>N7 (D.below l) hi ae (show k<64*s by omega));have j:=Ab c;have E:=Ab y;have r:=Ab a;clear D y c a Y hr W K S Q o v;generalize fs.getD k 0=f at*;go_wp2_with fail;refine(Aa j).mono ?_;rintro e w1 ⟨rfl,d,u⟩;have l:Below wr.heap.size wr w1:=by rw[u];exact below_drewN (Below.refl _ _) d
    obtain⟨x,A,ag,C,p⟩:=Aa H w1 l;rw[Aa V]at A C p;have HX:=Ab (Pi P T s s k x w1 (by omega) (by omega) A ag C);rw[<-Aa r]at p;have L:=Ab (And.intro p (BD (BD (Aa E) (CN l (some P)) (.inl rfl)) (BF w1 P (T+k/64) (.int .u64 ((setW x (k%64) true:Nat):Int))) (.inl rfl)));clear u l E j H A C p r;go_wp2_with fail;refine(Aa HX).mono ?_;rintro e w2 ⟨rfl,u⟩;rw[<-u]at L;clear u HX;go_wp2;go_roundw
    case rel=>exact⟨k+1,by omega,by go_num,L⟩
    case measure=>simp[intOf];omega
  ·obtain rfl:k=q:=by omega
   clear Q S K;go_wp2;go_end0;exact⟨rfl,D,y⟩
theorem gl(a:Option Addr)(n c:Nat)(ps:List Nat)(Q:Option Addr)(m V:Nat)(xs:List Nat)(w:World)(h:IntsAt w a n ps)(L:RowAt w Q m xs)(Z:n<=100000)(X:m<=1048576):
  Calls Tryz.prog 290 #[.slice a n c,.slice Q m V] w fun e w'=> ∃v,e=.returned v/\AD w' w.heap.size v (chosenL ps (fun i=>Ai xs (n+i)) n)/\Below w.heap.size w w':=by
 have q:Hid (∀k,chosenL ps (fun i=>Ai xs (n+i)) (k+1)=if Ai xs (n+k)=true then chosenL ps (fun i=>Ai xs (n+i)) k++[ps.getD k 0]else chosenL ps (fun i=>Ai xs (n+i)) k):=fun _=>rfl;have r:=Ab (Om ps (fun i=>Ai xs (n+i)));have J:Hid (AD w w.heap.size (.slice none 0 0) (chosenL ps (fun i=>Ai xs (n+i)) 0)):=AD.nil _ _;generalize g:chosenL ps (fun i=>Ai xs (n+i))=N at*;clear g;go_enter Tryz.func290,Tryz.ntmps290;go_wp2;go_loopw [5,10] (fun v i wr=> ∃k:Nat,k<=n/\i=.int .i64 k/\∃C I c1,v=.slice C I c1/\Hid (AD wr w.heap.size (.slice C I c1) (N k))/\Hid (Below w.heap.size w wr)) (fun _ i _=>n-(intOf i).toNat)
 case atStart=>exact⟨0,Nat.zero_le _,rfl,none,0,0,rfl,J,Ab (Below.refl _ _)⟩
 case round=>
  obtain⟨k,Y,rfl,C,I,c1,rfl,B,K⟩:=hrel;have z:=Aa K;by_cases E:k<n
  ·obtain⟨b,off,rfl,R⟩:=(h.below z).at E
   have S:=R k E;have j:=MR Q m V xs ((n:Int)+(k:Int)) wr (L.below z) X (by omega);rw[show(n:Int)+(k:Int)=((n+k:Nat):Int) by simp,MB,show((n+k:Nat):Int)=(n:Int)+(k:Int) by simp]at j;have g:=Aa q k;have W:=Aa r k;cases u:Ai xs (n+k)with
   |false=>
    rw[u]at j g;rw[if_neg (by decide)]at g;have x:=B;rw[<-g]at x;have o:=Ab j;clear j g R B h L u q r J;generalize ps.getD k 0=f at*;go_wp2_with fail;refine(Aa o).mono ?_;rintro e w1 ⟨rfl,d,H⟩;have y:Below wr.heap.size wr w1:=by rw[H];exact below_drewN (Below.refl _ _) d
    have p:=Ab ((Aa x).below y);have l:=Ab (Ad z y);clear H y x o z K;go_wp2;go_roundw
    case rel=>exact⟨k+1,by omega,by go_num,C,I,c1,rfl,p,l⟩
    case measure=>simp[intOf];omega
   |true=>
    rw[u]at j g;rw[if_pos rfl]at g;have A:=Ab g;have o:=Ab j;clear j g R h L u q r J;generalize ps.getD k 0=f at*;go_wp2_with fail;refine(Aa o).mono ?_;rintro e w1 ⟨rfl,d,H⟩;have y:Below wr.heap.size wr w1:=by rw[H];exact below_drewN (Below.refl _ _) d
    have p:=Ab ((Aa B).below y);have l:=Ab (Ad z y);clear H y B o z K;have T:(N k).length<=1048576:=by omega
    go_wp2_with (first|(at_builtin;refine RH rfl _ _ rfl w.heap.size (.slice C I c1) (N k) f rfl rfl (Aa p) (Aa l).size T ?_;intro s4 w4 s D;have O:=Ab ((Aa l).trans ((Aa p).grown D (Aa l).size));rw[<-Aa A]at s;obtain⟨a4,c4,rfl,_⟩:=s.ints;have P:=Ab s;clear D s p l A));go_roundw
    case rel=>exact⟨k+1,by omega,by go_num,a4,_,c4,rfl,P,O⟩
    case measure=>simp[intOf];omega
  ·obtain rfl:k=n:=by omega
   clear h L J q r;go_wp2;go_ret;exact⟨_,rfl,Aa B,Aa K⟩
def atR(a:List RV)(ps:List Nat):List RV:=ps.map fun i=>a.getD i .dflt
theorem Ho(a:List RV)(ps:List Nat):(atR a ps).length=ps.length:=by simp[atR]
theorem WI(b:List RV)(ps:List Nat)(k:Nat)(a:k<ps.length):(atR b ps).getD k .dflt=b.getD (ps.getD k 0) .dflt:=by
 unfold atR;rw[List.getD_eq_getElem?_getD,List.getElem?_map,List.getElem?_eq_getElem a,List.getD_eq_getElem?_getD (l:=ps),List.getElem?_eq_getElem a];rfl
theorem Ae.atR{a:List RV}{ps:List Nat}(h:Ae w a)(hp:∀i∈ps,i<a.length):Ae w (atR a ps):=fun r c=>by
 obtain⟨i,b,rfl⟩:=List.mem_map.1 c;exact h.get (hp i b)
theorem Q2(a:Option Addr)(n c:Nat)(d:List RV)(L:Option Addr)(J Y:Nat)(ps:List Nat)(w:World)(h:Aj w a n d)(hp:IntsAt w L J ps)(P:∀i∈ps,i<n)(hn:n<=1048576)(A:J<=1048576):
  Calls Tryz.prog 284 #[.slice a n c,.slice L J Y] w fun e w'=> ∃v,e=.returned v/\Ak w' w.heap.size v (atR d ps)/\Below w.heap.size w w':=by
 obtain rfl:=hp.1;have X:=Ab h;have V:=Ab hp;have T:=Ab P;have ac:=M2 ps.length A;have K:=Ab (M1 w ps.length A (BR (atR d ps) 0) (by rw[OF,Ho]));have q:Hid (Below w.heap.size w (w.alloc (.cells (madeCells #[.slice none 0 0,.string ⟨#[]⟩] (ps.length*2)) 73))):=Ab ((Below.refl _ _).alloc (Nat.le_refl _) _);clear h hp P;go_enter Tryz.func284,Tryz.ntmps284;go_wp2;go_loopw [13] (fun i wr=> ∃k:Nat,k<=ps.length/\i=.int .i64 k/\Hid (Ak wr w.heap.size (.slice (some ⟨w.heap.size,0,none⟩) ps.length ps.length) (BR (atR d ps) k))/\Hid (Below w.heap.size w wr)) (fun i _=>ps.length-(intOf i).toNat)
 case atStart=>exact⟨0,Nat.zero_le _,rfl,K,q⟩
 case round=>
  obtain⟨k,hk,rfl,C,o⟩:=hrel;clear K q;by_cases f:k<ps.length
  ·obtain⟨bp,S,rfl,g⟩:=((Aa V).below (Aa o)).at f
   have ab:=g k f;have B:ps.getD k 0<n:=Aa T _ (by rw[List.getD_eq_getElem?_getD,List.getElem?_eq_getElem f];exact List.getElem_mem f);obtain⟨b,off,rfl,x⟩:=((Aa X).below (Aa o)).at B;obtain⟨Z,aa⟩:=x _ B;have Q:(k:Int)<(ps.length:Int):=by omega
   have I:=OE (atR d ps) k (by rw[Ho];exact f);rw[WI d ps k f]at I;generalize ps.getD k 0=p at*;have R:(p:Int)<(n:Int):=by omega
   generalize d.getD p .dflt=r at*;have u:=Aa C;have y:(BR (atR d ps) k).length=ps.length:=by rw[NP _ _ (by rw[Ho];exact hk),Ho]
   have l:=Il (BR (atR d ps) k) k (by omega);have D:=u.cellAt l.1;have E:=u.cellAt l.2;have j:wr.ownsRow w.heap.size 73 2 (.slice (some ⟨w.heap.size,0,none⟩) ps.length ps.length) ps.length (cellsR (BR (atR d ps) k)):=by
    have:wr.ownsRow w.heap.size 73 2 (.slice (some ⟨w.heap.size,0,none⟩) ps.length ps.length) (BR (atR d ps) k).length (cellsR (BR (atR d ps) k)):=u;rwa[y]at this
   have N:=j.frozenAt (k*2);have O:=j.frozenAt (k*2+1);have m:=u.stored k r;rw[I]at m;have W:=Ab m;have H:=Ab (((Aa o).setCell (p:=⟨w.heap.size,k*2,none⟩) (Nat.le_refl _) (.slice r.a r.n r.c)).setCell (p:=⟨w.heap.size,k*2+1,none⟩) (Nat.le_refl _) (.string r.s));clear x g u j m I l y C o;generalize (BR (atR d ps) k).getD k .dflt=z at*;go_wp2;go_roundw
   case rel=>exact⟨k+1,by omega,by go_num,W,H⟩
   case measure=>simp[intOf];omega
  ·obtain rfl:k=ps.length:=by omega
   rw[show ps.length=(atR d ps).length from(Ho d ps).symm,O8,Ho]at C;go_wp2;go_ret;exact⟨_,rfl,Aa C,Aa o⟩
def BA(w:World)(cs:List Value)(rs:List (List Nat)):Prop:=cs.length=rs.length/\∀i u,cs[i]? =some u->∃a b,u=.slice a (rs.getD i []).length b/\RowAt w a (rs.getD i []).length (rs.getD i [])/\(rs.getD i []).length<=b
theorem BA.below{w':World}(h:BA w cs rs)(c:Below w.heap.size w w'):BA w' cs rs:=⟨h.1,fun i u g=>by
 obtain⟨a,b,e,f,d⟩:=h.2 i u g;exact⟨a,b,e,f.below c,d⟩⟩
theorem BA.append{ds:List Value}{ss:List (List Nat)}(h:BA w cs rs)(k:BA w ds ss):BA w (cs++ds) (rs++ss):=by
 refine⟨by simp[h.1,k.1],fun i u a=>?_⟩;by_cases b:i<cs.length
 ·rw[List.getElem?_append_left b]at a
  have e:(rs++ss).getD i []=rs.getD i []:=by rw[List.getD_eq_getElem?_getD,List.getElem?_append_left (by rw[<-h.1];exact b),<-List.getD_eq_getElem?_getD]
  rw[e];exact h.2 i u a
 ·rw[List.getElem?_append_right (by omega)]at a
  have e:(rs++ss).getD i []=ss.getD (i-cs.length) []:=by rw[List.getD_eq_getElem?_getD,List.getElem?_append_right (by rw[<-h.1];omega),<-List.getD_eq_getElem?_getD,h.1]
  rw[e];exact k.2 _ u a
theorem BA.take(h:BA w cs rs)(q:Nat):BA w (cs.take q) (rs.take q):=by
 refine⟨by simp[h.1],fun i u a=>?_⟩;have b:i<q:=by
  have:=(List.getElem?_eq_some_iff.1 a).1;rw[List.length_take]at this;omega
 rw[List.getElem?_take_of_lt b]at a;have e:(rs.take q).getD i []=rs.getD i []:=by rw[List.getD_eq_getElem?_getD,List.getElem?_take_of_lt b,<-List.getD_eq_getElem?_getD]
 rw[e];exact h.2 i u a
theorem BA.drop(h:BA w cs rs)(q:Nat):BA w (cs.drop q) (rs.drop q):=by
 refine⟨by simp[h.1],fun i u a=>?_⟩;rw[List.getElem?_drop]at a;have e:(rs.drop q).getD i []=rs.getD (q+i) []:=by rw[List.getD_eq_getElem?_getD,List.getElem?_drop,<-List.getD_eq_getElem?_getD]
 rw[e];exact h.2 _ u a
theorem BA.one(h:BA w cs rs):∀u∈cs,u.oneCell'=true:=by
 intro u d;obtain⟨i,b,rfl⟩:=List.getElem_of_mem d;obtain⟨a,c,e,_⟩:=h.2 i _ (List.getElem?_eq_getElem b);rw[e];rfl
theorem VecsAt.cells{b off:Nat}(h:VecsAt w (some ⟨b,off,none⟩) n rs):∃cs,BA w cs rs/\∀i u,cs[i]? =some u->w.cell? ⟨b,off+i,none⟩=some u:=by
 have k:∀m,m<=n->∃cs:List Value,cs.length=m/\∀i u,cs[i]? =some u->w.cell? ⟨b,off+i,none⟩=some u/\∃d f,u=.slice d (rs.getD i []).length f/\RowAt w d (rs.getD i []).length (rs.getD i [])/\(rs.getD i []).length<=f:=by
  intro m
  induction m with
  |zero=>exact fun _=>⟨[],rfl,fun i u a=>by simp at a⟩
  |succ m r=>
   intro x;obtain⟨cs,g,c⟩:=r (by omega);obtain⟨s,o,e,q⟩:=h.at (show m<n by omega);simp only[Option.some.injEq,Addr.mk.injEq,and_true]at e;obtain⟨rfl,rfl⟩:=e;obtain⟨d,f,l,p⟩:=q m (by omega);refine⟨cs++[.slice d (rs.getD m []).length f],by simp[g],fun i u a=>?_⟩;by_cases v:i<m
   ·rw[List.getElem?_append_left (by omega)]at a
    exact c i u a
   ·rw[List.getElem?_append_right (by omega)]at a
    have j:i=m:=by
     have:=(List.getElem?_eq_some_iff.1 a).1;simp at this;omega
    subst j;rw[g,Nat.sub_self]at a;simp at a;subst a;exact⟨l,d,f,rfl,p,h.cap (by omega) l⟩
 obtain⟨cs,g,c⟩:=k n (Nat.le_refl _);exact⟨cs,⟨by rw[g,h.1],fun i u a=>(c i u a).2⟩,fun i u a=>(c i u a).1⟩
theorem BA.vecs{B:Nat}{v:Value}(h:w.ownsRow B 40 1 v n cs)(k:BA w cs rs):∃a c,v=.slice a n c/\VecsAt w a n rs:=by
 have p:cs.length=n:=by simpa using h.1
 rcases h.2 with⟨rfl,m⟩|⟨g,cap,q,rfl,C,u,x,r,s,ht⟩
 ·exact⟨none,0,by rw[m],by rw[<-k.1,p],.inl m,fun _ _ _ _ _ _ e=>by cases e⟩
 ·have d:∀i (l:i<cs.length),w.cell? ⟨g,i,none⟩=some cs[i]:=fun i l=>by
   rw[cell_of_row w g i _ _ _ u,<-Array.getElem?_toList,<-List.getElem?_eq_getElem l,<-ht,List.getElem?_take_of_lt (by omega)]
  refine⟨_,cap,rfl,by rw[<-k.1,p],.inr ⟨g,0,rfl,fun i l=>?_⟩,fun b off i z j A e l o=>?_⟩
  ·have f:i<cs.length:=by omega
   obtain⟨a,c,e,y,_⟩:=k.2 i cs[i] (List.getElem?_eq_getElem f);refine⟨a,c,?_,y⟩;rw[Nat.zero_add,d i f,e]
  ·simp only[Option.some.injEq,Addr.mk.injEq,and_true]at e
   obtain⟨rfl,rfl⟩:=e;have f:i<cs.length:=by omega
   obtain⟨a,c,e,_,D⟩:=k.2 i cs[i] (List.getElem?_eq_getElem f);rw[Nat.zero_add,d i f,e]at o;simp only[Option.some.injEq,Value.slice.injEq]at o;omega
theorem Um:Tryz.prog.underlying 260=some (.slice (Tryz.prog.elem 260)):=by kernel_rfl
theorem fv:Tryz.prog.elem 260=40:=by kernel_rfl
theorem nT(b off n c q:Nat)(a:q<=c)(w:World):
  (Instr.sliceAt 260 (.slice (some ⟨b,off,none⟩) n c) none (some (.int .i64 (q:Int))) none).run Tryz.prog w=.ok (.slice (some ⟨b,off,none⟩) q c) w:=by
 rw[run_sliceAt_slice _ _ _ _ _ _ Um,run_slice_h _ _ _ _ _ Um _ _ (by omega) (by omega),fv,nb];simp[Result.andThen,sliced,Addr.add]
theorem IntsAt.lt{a:Option Addr}{xs:List Nat}(h:IntsAt w a n xs):n=0\/∀c,a=some c->c.block<w.heap.size:=by
 rcases h.2 with d|⟨b,off,rfl,f⟩
 ·exact .inl d
 ·by_cases d:n=0
  ·exact .inl d
  ·right
   intro c e;simp only[Option.some.injEq]at e;subst e;exact World.block_lt_of_cell? w _ (f 0 (by omega))
def sizeL(n:Nat):Nat:=(2*n+63)/64
def Ja(rs:List (List Nat))(ps fs:List Nat)(s i:Nat):List Nat:=BE (Cf (BG s) (rs.getD (ps.getD i 0) []) fs ps.length) (ps.length+i) true
def BO(rs:List (List Nat))(ps fs:List Nat)(s k:Nat):List (List Nat):=(List.range (ps.length+1)).map fun i=>if i<k then Ja rs ps fs s i else BG s
theorem Oy(rs:List (List Nat))(ps fs:List Nat)(s k:Nat):(BO rs ps fs s k).length=ps.length+1:=by simp[BO]
theorem Ox(rs:List (List Nat))(ps fs:List Nat)(s k i:Nat)(a:i<ps.length+1):(BO rs ps fs s k).getD i []=if i<k then Ja rs ps fs s i else BG s:=by
 simp[BO,List.getD_eq_getElem?_getD,a]
theorem jD(rs:List (List Nat))(ps fs:List Nat)(s:Nat):BO rs ps fs s 0=List.replicate (ps.length+1) (BG s):=by
 apply List.ext_getElem
 ·simp[BO]
 ·intro i a b;simp[BO]
theorem lW(rs:List (List Nat))(ps fs:List Nat)(s k:Nat)(d:k<ps.length+1):(BO rs ps fs s k).set k (Ja rs ps fs s k)=BO rs ps fs s (k+1):=by
 apply List.ext_getElem
 ·simp[BO]
 ·intro i b c
  rw[List.getElem_set];by_cases e:k=i
  ·subst e;simp[BO]
  ·rw[if_neg e]
   simp only[BO,List.getElem_map,List.getElem_range];by_cases a:i<k
   ·rw[if_pos a,if_pos (by omega)]
   ·rw[if_neg a,if_neg (by omega)]
theorem RF(rs:List (List Nat))(ps fs:List Nat)(s i:Nat):Ac (Ja rs ps fs s i):=N9 (I1 (It s) _ _ _) _ _
theorem R3(rs:List (List Nat))(ps fs:List Nat)(s i:Nat):(Ja rs ps fs s i).length=s:=by unfold Ja;rw[Ir,IA,Gm]
theorem lV(rs:List (List Nat))(ps fs:List Nat)(s k j:Nat)(q:List Nat)(c:Ac q)(d:q.length=s)(M:Nat)(b:s<=M):AC M (((BO rs ps fs s k).set j q).take k):=by
 intro x a;rcases List.mem_or_eq_of_mem_set (List.mem_of_mem_take a)with a|rfl
 ·obtain⟨i,_,rfl⟩:=List.mem_map.1 a
  split
  ·exact⟨RF _ _ _ _ _,by rw[R3];exact b⟩
  ·exact⟨It s,by rw[Gm];exact b⟩
 ·exact⟨c,by omega⟩
theorem S6(rs:List (List Nat))(ps fs:List Nat)(s:Nat)(q:List Nat):((BO rs ps fs s ps.length).set ps.length q).take ps.length=(BO rs ps fs s ps.length).take ps.length:=by
 apply List.ext_getElem
 ·simp
 ·intro i b a
  have c:i<ps.length:=by
   rw[List.length_take]at a;omega
  rw[List.getElem_take,List.getElem_take,List.getElem_set,if_neg (by omega)]
def exprL(rs:List (List Nat))(xs:List Nat):List Nat:=
 chosenL (keepL rs rs.length) (fun i=>Ai (reduceL (broughtL ((BO rs (keepL rs rs.length) (C3 (broughtL rs)) (sizeL (keepL rs rs.length).length) (keepL rs rs.length).length).take (keepL rs rs.length).length))
  (Cf (BG (sizeL (keepL rs rs.length).length)) xs (C3 (broughtL rs)) (keepL rs rs.length).length)) ((keepL rs rs.length).length+i)) (keepL rs rs.length).length
theorem Xs(n:Nat):2*n<=64*sizeL n:=by unfold sizeL;omega
theorem Xr(n:Nat)(h:n<=100000):sizeL n<=4000:=by unfold sizeL;omega
theorem eU{M:Nat}(h:AC M rs)(i:Nat)(c:i<(broughtL rs).length):0<=firstI ((broughtL rs).getD i []):=by
 have a:=(Fl h).getD i;have b:val ((broughtL rs).getD i [])≠0:=by
  refine(Kt h).1 _ (List.mem_map.2 ⟨_,?_,rfl⟩);simp[List.getD_eq_getElem?_getD,List.getElem?_eq_getElem c]
 rw[Im a.1,if_neg b];omega
theorem gL{M:Nat}(h:AC M rs):C3 (broughtL rs)=(broughtL rs).map fun b=>Ech.low (val b):=by
 unfold C3;apply List.map_congr_left;intro b a;have c:=(Fl h) b a;have d:val b≠0:=(Kt h).1 _ (List.mem_map.2 ⟨b,a,rfl⟩);rw[Im c.1,if_neg d];rfl
theorem dy(h:AC 1048576 rs)(i:Nat):(C3 (broughtL rs)).getD i 0<=1000000000:=by
 by_cases b:i<(broughtL rs).length
 ·rw[NS _ i b]
  have a:=(Fl h).getD i;have:=TM a.1;omega
 ·rw[Ge (by rw[Iq];omega)]
  omega
theorem dS(rs:List (List Nat)):(broughtL rs).length=(keepL rs rs.length).length:=by rw[NF rs _ (Nat.le_refl _),List.take_length]
theorem NO(e:AC 1048576 rs)(m:rs.length<=100000){xs:List Nat}(d:Ac xs){c:Nat}(f:Bs rs xs c):exprL rs xs=chosenL (keepL rs rs.length) (fun i=>c.testBit i) (keepL rs rs.length).length:=by
 have g:=GM rs rs.length;have h:=Xs (keepL rs rs.length).length;have a:=Xr (keepL rs rs.length).length (by omega);unfold exprL;refine RS _ _ fun i l=>?_;refine eE e (M':=4000) (fs:=C3 (broughtL rs)) (gL e) ?_ ?_ ?_ (I1 (It _) _ _ _) (rj d (by omega)) (by rw[IA,Gm];exact a) f i
 ·rw[List.length_take,Oy];omega
 ·rw[<-S6 _ _ _ _ []]
  intro x d;have k:=List.mem_of_mem_take d;obtain⟨j,b,rfl⟩:=List.getElem_of_mem d;rw[List.length_take,List.length_set,Oy]at b;rw[List.getElem_take,List.getElem_set,if_neg (by omega)];simp only[BO,List.getElem_map,List.getElem_range];split
  ·exact⟨RF _ _ _ _ _,by rw[R3];exact a⟩
  ·exact⟨It _,by rw[Gm];exact a⟩
 ·intro j b
  rw[List.getD_eq_getElem?_getD,List.getElem?_take_of_lt b,<-List.getD_eq_getElem?_getD,Ox _ _ _ _ _ _ (by omega),if_pos b];exact pn (e.getD _).1 (by omega) (by omega)
def XA:List Nat->Nat->List Nat->List Nat
 |xs,_,[]=>xs
 |xs,o,y::r=>XA (xs.set o y) (o+1) r
theorem Own.setCells{B g:Nat}:∀(a:List Nat) (w:World) (xs:List Nat) (o cap:Nat),Own w B (.slice (some ⟨g,0,none⟩) xs.length cap) xs->Ac a->Own (w.setCells g o (cellsU a)) B (.slice (some ⟨g,0,none⟩) xs.length cap) (XA xs o a)
 |[],w,xs,o,cap,h,_=>h
 |y::r,w,xs,o,cap,h,c=>by
  have d:=h.stored o y (c y List.mem_cons_self);have b:=Own.setCells r _ (xs.set o y) (o+1) cap (by rw[List.length_set];exact d) c.tail;rw[List.length_set]at b;exact b
def exL(rs:List (List Nat))(xs:List Nat):List Nat:=if firstI (reduceL (broughtL rs) xs)<0 then exprL rs xs else []
def Ct(f:Nat->Nat)(vs:List Nat):Nat->Nat
 |0=>0
 |n+1=>if Ai vs n then Ct f vs n^^^f n else Ct f vs n
theorem K1(ss:List ByteArray)(vs:List Nat)(i:Nat):∀n,(Br ss vs n).getD i 0=Ct (fun b=>(tx (ss.getD b ByteArray.empty)).getD i 0) vs n
 |0=>by simp[Br,Ct]
 |n+1=>by
  unfold Br Ct;split
  ·rw[Du,K1 ss vs i n]
  ·exact K1 ss vs i n
theorem TC{f g:Nat->Nat}{xs kn:List Nat}(c:∀b,Ai kn b=true->g b=f b)(d:∀b,Ai kn b=false->g b=0):∀n,Ct f xs n^^^Ct g xs n=Ct f (dropL xs kn) n
 |0=>by simp[Ct]
 |n+1=>by
  have a:=TC (xs:=xs) c d n;unfold Ct;rw[Hf];cases h:Ai xs n
  ·simpa using a
  ·cases e:Ai kn n
   ·rw[d n e]
    simp only[Bool.not_false,Bool.and_true,if_true,Nat.xor_zero];rw[<-a,Nat.xor_assoc,Nat.xor_comm (f n),<-Nat.xor_assoc]
   ·rw[c n e]
    simp only[Bool.not_true,Bool.and_false,if_true,Bool.false_eq_true,if_false];rw[<-a,Nat.xor_assoc,Nat.xor_comm (f n),Nat.xor_assoc,Nat.xor_self,Nat.xor_zero]
theorem MX{f:Nat->Nat}{vs:List Nat}{b:Nat}(h:∀i,Ai vs i=decide (i=b)):∀n,Ct f vs n=if b<n then f b else 0
 |0=>by simp[Ct]
 |n+1=>by
  unfold Ct;rw[MX h n,h n];by_cases e:n=b
  ·subst e
   rw[decide_eq_true rfl,if_pos rfl,if_neg (by omega),if_pos (by omega)];exact Nat.zero_xor _
  ·rw[decide_eq_false e,if_neg (by simp)]
   by_cases a:b<n
   ·rw[if_pos a,if_pos (by omega)]
   ·rw[if_neg a,if_neg (by omega)]
theorem Kr{vs:List Nat}{s:ByteArray}:DN ss vs s=true↔(∀i,Ct (fun b=>(tx (ss.getD b ByteArray.empty)).getD i 0) vs ss.length=(tx s).getD i 0)/\∀i,ss.length<=i->Ai vs i=false:=by
 rw[fe,nY];refine and_congr_left fun _=>?_;constructor
 ·intro h i
  have:=h i;rw[MO,Du,DE (I4 _ _ _),K1]at this;exact Ech.eq_of_xor this
 ·intro h i
  rw[MO,Du,DE (I4 _ _ _),K1,h i,Nat.xor_self]
def Rf(ss:List ByteArray)(kn:List Nat)(bs:List ByteArray):Prop:=∀b,Ai kn b=true->∀i,(tx (bs.getD b ByteArray.empty)).getD i 0=(tx (ss.getD b ByteArray.empty)).getD i 0
theorem V0{j:Nat}(c:Kn (ss.length:Int) j kn bs)(e:Rf ss kn bs){xs:List Nat}{s:ByteArray}(h:DN ss xs s=true)(i:Nat):
  (tx (Do bs xs s)).getD i 0=Ct (fun b=>(tx (ss.getD b ByteArray.empty)).getD i 0) (dropL xs kn) ss.length:=by
 unfold Do;have d:=c.lenb;rw[Int.toNat_natCast]at d;rw[MO,Du,DE (I4 _ _ _),K1,d,<-(Kr.1 h).1 i];refine TC (fun b a=>e b a i) (fun b a=>?_) _;show(tx (bs.getD b ByteArray.empty)).getD i 0=0;rw[c.none b a];rfl
theorem Run.truth{ss:List ByteArray}{rs:List RV}(o:0<sizeOfK (ss.length:Int))(m:Dm rs)(u:∀r∈rs,DN ss r.xs r.s=true):∀{j:Nat} {kn:List Nat} {bs:List ByteArray},Run (ss.length:Int) rs j kn bs->Rf ss kn bs
 |0,kn,bs,⟨g,k⟩=>fun b f=>by rw[g,Jw]at f;cases f
 |j+1,kn,bs,⟨p,x,r,g,k,y,z⟩=>by
  have l:=Run.known o m g;have q:=Run.truth o m u g;have v:=List.mem_of_find?_eq_some k;obtain⟨D,a,B,C,c,A⟩:=KL (m r v).1 (List.find?_some k);have d:=D8 o;rw[Int.toNat_natCast]at c d;subst y z;intro b f i;rw[Iw _ _ _ _ (by rw[l.len];omega)]at f;rw[Kl];by_cases e:b=blkOf p r
  ·rw[if_pos ⟨e,by rw[l.lenb,Int.toNat_natCast];exact c⟩,V0 l q (u r v),MX a,if_pos c,e]
  ·rw[if_neg e]at f
   rw[if_neg (fun h=>e h.1)];exact q b f i
theorem nI{rs:List RV}(e:AM (ss.length:Int) rs kn bs)(g:Dm rs)(l:∀r∈rs,DN ss r.xs r.s=true):∀x∈toldTo (ss.length:Int) kn bs (ss.length:Int).toNat,DN ss x.1 x.2=true:=by
 intro x d;by_cases m:sizeOfK (ss.length:Int)=0
 ·obtain⟨o,p,_⟩:=I0 (rs:=rs) m
  obtain⟨rfl,rfl⟩:=e.uniq o;rw[p]at d;cases d
 ·obtain⟨⟨j,h⟩,_⟩:=e
  have a:=Run.known (by omega) g h;have k:=Run.truth (by omega) g l h;obtain⟨b,f,c,rfl⟩:=Iu a d;rw[Int.toNat_natCast]at f;refine Kr.2 ⟨fun i=>?_,fun i q=>?_⟩
  ·rw[MX (I7 a.size (by omega)),if_pos f]
   exact(k b c i).symm
  ·rw[I7 a.size (by omega),decide_eq_false (by omega)]
theorem nH{rs:List RV}(c:AM (ss.length:Int) rs kn bs)(d:Dm rs)(b:∀r∈rs,DN ss r.xs r.s=true):∀x∈restL (ss.length:Int) rs kn bs,DN ss x.1 x.2=true:=by
 intro x a;by_cases m:sizeOfK (ss.length:Int)=0
 ·obtain⟨o,_,p⟩:=I0 (rs:=rs) m
  obtain⟨rfl,rfl⟩:=c.uniq o;rw[p]at a;cases a
 ·obtain⟨⟨j,e⟩,_⟩:=c
  have g:=Run.known (by omega) d e;have h:=Run.truth (by omega) d b e;unfold restL at a;rw[List.mem_map]at a;obtain⟨r,l,rfl⟩:=a;have f:=(List.mem_filter.1 l).1;refine Kr.2 ⟨fun i=>(V0 g h (b r f) i).symm,fun i k=>?_⟩;show Ai (dropL r.xs kn) i=false;rw[Hf,(Kr.1 (b r f)).2 i k];rfl
end Go.Proofs.YtfpmnekaockodaaGreatDoor
