/-
  Laws that the proof stands on.
-/
import Derived.Test.YtfpfcnfmigaphaaGreatDoorU13
namespace Go.Proofs.YtfpfcnfmigaphaaGreatDoor
open Go.RowKit
set_option linter.unusedVariables false
set_option linter.unusedSimpArgs false
set_option maxRecDepth 4000
set_option maxHeartbeats 8000000
variable {k:Int}
theorem Xo(x d:Nat):(x:Int)/2^(8*d)%256=((x/256^d%256:Nat):Int):=by
 rw[show(2:Int)^(8*d)=((256^d:Nat):Int) by rw[Int.pow_mul];simp];simp
theorem Ug(W:Nat)(V:0<W)(hW:W<=8)(a:Option Addr)(n c:Nat)(xs:List Nat)(w:World)(h:RowAt w a n xs)(Y:n<=1048576):
  Calls Tryz.prog 194 #[.int .i64 (W:Int),.slice a n c] w fun e w'=>e=.returned (.string (st (xs.flatMap (be W))))/\Below w.heap.size w w':=by
 obtain rfl:n=xs.length:=h.1.symm;have D:(W:Int)*(xs.length:Int)=((W*xs.length:Nat):Int):=by simp
 have L:W*xs.length<=8388608:=Nat.le_trans (Nat.mul_le_mul hW Y) (by decide);have N:=Ab (SU w.heap.size w.heap.size (W*xs.length) (w.alloc (.cells #[.pointer none,.slice none 0 0] 317)) (Nat.le_refl _) (heap_alloc_new w _) (by simp) (by omega));have A:Below w.heap.size w (w.alloc (.cells #[.pointer none,.slice none 0 0] 317)):=(Below.refl _ _).alloc (Nat.le_refl _) _;generalize W*xs.length=m at*;go_enter Tryz.func194,Tryz.ntmps194;go_wp2_with (go_at_call 214;refine(Aa N).mono ?_;rintro e w1 ⟨rfl,u,B⟩);have O:=A.trans B;have q:=Ab u;have r:=Ab O;clear A B u O N L D;go_loopw [16] (fun i wr=> ∃k:Nat,k<=xs.length/\i=.int .i64 k/\Hid (Ga wr w.heap.size w.heap.size ((xs.take k).flatMap (be W)))/\Hid (Below w.heap.size w wr)) (fun i _=>xs.length-(intOf i).toNat)
 case atStart=>exact⟨0,Nat.zero_le _,rfl,Ab (by simpa using Aa q),r⟩
 case round=>
  obtain⟨k,hk,rfl,f,d⟩:=hrel;clear q r;by_cases p:k<xs.length
  ·obtain⟨b,off,rfl,Q⟩:=(h.below (Aa d)).at p
   have H:=Q k p;have hx:=h.2.1.get k;have T:=Ab (lO W p);have Z:((xs.take k).flatMap (be W)).length<=8388608:=by
    rw[Rj,List.length_take];exact Nat.le_trans (Nat.mul_le_mul (show min k xs.length<=1048576 by omega) hW) (by decide)
   generalize xs.getD k 0=x at*;generalize (xs.take k).flatMap (be W)=E at*;clear Q;go_wp2;go_loopw [21] (fun i R=> ∃j:Nat,j<=W/\i=.int .i64 j/\Hid (Ga R w.heap.size w.heap.size (E++(be W x).take j))/\Hid (Below w.heap.size w R)) (fun i _=>W-(intOf i).toNat)
   case atStart=>exact⟨0,Nat.zero_le _,rfl,Ab (by simpa using Aa f),d⟩
   case round=>
    obtain⟨j,hj,rfl,f,d⟩:=hrel;by_cases J:j<W
    ·have X:=Xo x (W-1-j)
     have S:=Ab (VJ W x j J);have hy:x/256^(W-1-j)%256<256:=Nat.mod_lt _ (by decide);generalize x/256^(W-1-j)%256=y at*;have C:(E++(be W x).take j).length<=1073741824:=by
      rw[List.length_append];have:=List.length_take_le j (be W x);omega
     have G:=Ab (iE w.heap.size w.heap.size _ y _ (Aa f) hy C (Aa d).size);clear C;go_wp2_with (go_at_call 230;refine(Aa G).mono ?_;rintro e w' ⟨rfl,v,g⟩);rw[List.append_assoc,<-Aa S]at v;go_roundw
     case rel=>exact⟨j+1,by omega,by go_num,Ab v,Ab ((Aa d).trans g)⟩
     case measure=>simp[intOf];omega
    ·have I:j=W:=by omega
     subst I;rw[List.take_of_length_le (by rw[C5];exact Nat.le_refl _),<-Aa T]at f;go_wp2;go_roundw
     case rel=>exact⟨k+1,by omega,by go_num,f,d⟩
     case measure=>simp[intOf];omega
  ·have K:k=xs.length:=by omega
   subst K;rw[List.take_length]at f;have G:=Ab (Ut w.heap.size w.heap.size _ _ (Aa f) (Aa d).size);go_wp2_with (go_at_call 217;refine(Aa G).mono ?_;rintro e w' ⟨rfl,g⟩);go_ret;exact⟨rfl,(Aa d).trans g⟩
def m64(n:Int):Nat:=(n%18446744073709551616).toNat
theorem YH(n:Int):m64 n<18446744073709551616:=by unfold m64;omega
theorem ol(n:Int):IntKind.u64.wrap n=((m64 n:Nat):Int):=by rw[IntKind.wrap_u64];unfold m64;omega
def Bz(n k:Int):List Nat:=if k=1\/k=2\/k=4 then be k.toNat (m64 n)else []
theorem OG{n:Int}(h:DX k):Bz n k=be k.toNat (m64 n):=if_pos h
theorem Ye{n:Int}(h:¬DX k):Bz n k=[]:=if_neg h
theorem Gi(n k:Int):bytes (Bz n k):=by
 unfold Bz;split
 ·exact Ow _ _
 ·exact Ja
theorem Z2:st []=⟨#[]⟩:=rfl
theorem Hq(n k:Int)(w:World):
  Calls Tryz.prog 141 #[.int .i64 n,.int .i64 k] w fun e w'=>e=.returned (.string (st (Bz n k)))/\Below w.heap.size w w':=by
 by_cases h:DX k
 ·rw[OG h]
  have b:=Ab (fun wx=>NQ k h wx);obtain⟨W,rfl,hW⟩:=NO h;have f:=ol n;have a:=YH n;rw[Int.toNat_natCast];generalize m64 n=m at*;have c:=Ab (Ug W (by omega) (by omega) _ 1 1 [m] _ (nw w m a) (by omega));clear h hW a;go_enter Tryz.func141,Tryz.ntmps141;go_wp2_with (first|(go_at_call 193;refine(Aa b _).mono ?_;rintro e w' ⟨rfl,rfl⟩)|(go_at_call 194;refine(Aa c).mono ?_;rintro e w' ⟨rfl,d⟩));go_ret;exact⟨rfl,Ps (Below.refl _ _) d⟩
 ·rw[Ye h,Z2]
  have b:=Ab (fun wx=>Uk k h wx);clear h;go_enter Tryz.func141,Tryz.ntmps141;go_wp2_with (go_at_call 193;refine(Aa b _).mono ?_;rintro e w' ⟨rfl,rfl⟩);go_ret;exact⟨rfl,Below.refl _ _⟩
theorem fj(a:Option Addr)(n c:Nat)(xs:List Nat)(w:World)(h:RowAt w a n xs)(b:n<=1048576):
  Calls Tryz.prog 182 #[.slice a n c] w fun e w'=>e=.returned (.string (st (CT xs)))/\Below w.heap.size w w':=by
 have d:=Ab (Ug 8 (by omega) (by omega) a n c xs w h b);clear h b;go_enter Tryz.func182,Tryz.ntmps182;go_wp2_with (go_at_call 194;refine(Aa d).mono ?_;rintro e w' ⟨rfl,f⟩);go_ret;exact⟨rfl,f⟩
theorem bG{w w':World}{B:Nat}{e:TypeId}{v:Value}{n:Nat}{cs:List Value}(h:w.ownsRow B e 1 v n cs)(f:Below w.heap.size w w'):w'.ownsRow B e 1 v n cs:=by
 refine⟨h.1,?_⟩;rcases h.2 with c|⟨g,cap,b,d,i,a,r⟩
 ·exact .inl c
 ·exact .inr ⟨g,cap,b,d,i,(f.block g (Array.getElem?_eq_some_iff.1 a).1).trans a,r⟩
theorem cK{w:World}{ops:Array Oper}{rest:List Oper}{o:Oper}{act:Act}{Q:Exit->Act->World->Prop}(i:o.guard=none)(s x:Operand)
  (G:o.op=.call {callee:=.builtin .append,args:=#[s,x],argTypes:=#[32,32]}) (B:Nat) (v:Value) (xs:List Nat) (y:Nat)
  (H:act.eval s=v) (J:act.eval x=.slice (some ⟨w.heap.size,0,none⟩) 1 1) (h:Own w B v xs) (f:B<=w.heap.size) (N:xs.length<=1048576) (K:y<18446744073709551616) {c:Int} (g:c=(y:Int))
  (C:∀A w',Own w' B A (xs++[y])->Below B w w'->wpList Tryz.prog ops Q rest (act.put o.dst A) w'):wpList Tryz.prog ops Q (o::rest) act (w.alloc (.cells #[.int .u64 c] 69)):=by
 subst g;obtain⟨L,D,m,n,p⟩:=info_parts Jj;have e:Below w.heap.size w (w.alloc (.cells #[.int .u64 (y:Int)] 69)):=(Below.refl _ _).alloc (Nat.le_refl _) _;have q:=bG h.2 e
 refine wpList_append_own _ i s x 32 G B 69 L (.int .u64 0) 1 8 Tryz.underlying32 D m n p rfl (by decide) v xs.length (cellsU xs) H q ⟨w.heap.size,0,none⟩ 1 1 [.int .u64 (y:Int)] J rfl (fun j u r=>?_)
  (fun u I=>by rw[List.mem_singleton.1 I];rfl) (by unfold maxLen;omega) (by omega) (Nat.le_trans f e.size) ?_
 ·match j with
  |0=>
   have g:(w.alloc (.cells #[.int .u64 (y:Int)] 69)).cell? ⟨w.heap.size,0,none⟩=some (.int .u64 (y:Int)):=by rw[World.cell?_alloc_at _ _ _ _ rfl];rfl
   simpa [Addr.add,g]using r
  |j+1=>simp at r
 ·intro v' w' a b _
  refine C v' w' ⟨fun z d=>?_,?_⟩ ((e.mono f).grown b (Nat.le_trans f e.size) fun k E=>(q.lt k E).1)
  ·rcases List.mem_append.1 d with d|d
   ·exact h.1 z d
   ·rw[List.mem_singleton.1 d];exact K
  ·rw[show cellsU xs++[.int .u64 (y:Int)]=cellsU (xs++[y]) by simp[cellsU]]at a
   show w'.ownsRow B 69 1 v' (xs++[y]).length (cellsU (xs++[y]));rw[List.length_append];exact a
def Co(s:ByteArray)(k:Int)(xs:List Nat)(e:Nat):Prop:=
 (sizeOfK k=0/\e=1/\xs=[])\/(0<sizeOfK k/\s.size<8*sizeOfK k/\e=2/\xs=[])\/
 (0<sizeOfK k/\8*sizeOfK k<=s.size/\¬BU k (wsL (tx s) (sizeOfK k))/\e=3/\xs=[])\/(0<sizeOfK k/\8*sizeOfK k<=s.size/\BU k (wsL (tx s) (sizeOfK k))/\e=0/\xs=wsL (tx s) (sizeOfK k))
theorem Co.uniq{s:ByteArray}{xs n:List Nat}{e f:Nat}(h:Co s k xs e)(p:Co s k n f):xs=n/\e=f:=by
 rcases h with⟨a,b,c⟩|⟨a,b,c,d⟩|⟨a,b,c,d,z⟩|⟨a,b,c,d,z⟩<;>rcases p with⟨i,j,g⟩|⟨i,j,g,m⟩|⟨i,j,g,m,q⟩|⟨i,j,g,m,q⟩
 all_goals first
  |omega
  |(subst_vars;exact⟨rfl,rfl⟩)
  |exact absurd g c
  |exact absurd c g
theorem Ub{s:ByteArray}{xs:List Nat}{e:Nat}(d:¬sizeOfK k=0)(f:¬s.size<8*sizeOfK k):
  Co s k xs e↔(¬BU k (wsL (tx s) (sizeOfK k))/\e=3/\xs=[])\/(BU k (wsL (tx s) (sizeOfK k))/\e=0/\xs=wsL (tx s) (sizeOfK k)):=by
 unfold Co;constructor
 ·intro h
  rcases h with⟨a,_⟩|⟨a,b,_⟩|⟨a,b,c⟩|⟨a,b,c⟩
  ·omega
  ·omega
  ·exact .inl c
  ·exact .inr c
 ·rintro(h|h)
  ·exact .inr (.inr (.inl ⟨by omega,by omega,h⟩))
  ·exact .inr (.inr (.inr ⟨by omega,by omega,h⟩))
def BL(xs:List Nat)(n j:Nat):List Nat:=wsL xs j++List.replicate (n-j) 0
theorem dF(xs:List Nat)(n j:Nat)(h:j<=n):(BL xs n j).length=n:=by unfold BL;rw[List.length_append,I8,List.length_replicate];omega
theorem jZ(xs:List Nat)(n:Nat):BL xs n 0=List.replicate n 0:=by simp[BL,wsL]
theorem oG(xs:List Nat)(n:Nat):BL xs n n=wsL xs n:=by simp[BL]
theorem oH(xs:List Nat)(n j:Nat)(h:j<n):(BL xs n j).set j (num ((xs.drop (8*j)).take 8))=BL xs n (j+1):=by
 unfold BL;rw[OO,List.set_append,if_neg (by rw[I8];omega),I8,Nat.sub_self,show n-j=(n-(j+1))+1 by omega,List.replicate_succ,List.set_cons_zero,List.append_assoc];rfl
theorem Ze(s:ByteArray)(j:Nat):tx (s.extract (8*j) (8*(j+1)))=((tx s).drop (8*j)).take 8:=by
 rw[El,show 8*(j+1)-8*j=8 by omega]
theorem RX(s:ByteArray)(k:Int)(w:World)(ag:s.size<=9223372036854775807):
  Calls Tryz.prog 178 #[.string s,.int .i64 k] w fun e w'=> ∃v xs en,e=.returned (.tuple #[v,.int .i64 ((en:Nat):Int)])/\Own w' w.heap.size v xs/\Co s k xs en/\Below w.heap.size w w':=by
 have S:=Ab (GL k);have X:=DL k;by_cases D:sizeOfK k=0
 ·have T:(((sizeOfK k:Nat):Int)==0)=true:=by rw[D];rfl
  have g:=Ab (show Co s k [] 1 from .inl ⟨D,rfl,rfl⟩);clear D X;go_enter Tryz.func178,Tryz.ntmps178;go_wp2_with (go_at_call 177;refine(Aa S _).mono ?_;rintro e w' ⟨rfl,rfl⟩);go_ret2;exact⟨_,[],1,rfl,Own.nil _ _,Aa g,Below.refl _ _⟩
 ·have T:(((sizeOfK k:Nat):Int)==0)=false:=by simp only[beq_eq_false_iff_ne,ne_eq];omega
  by_cases h1:s.size<8*sizeOfK k
  ·have g:=Ab (show Co s k [] 2 from .inr (.inl ⟨by omega,h1,rfl,rfl⟩))
   have hd:((s.size:Int)<((sizeOfK k:Nat):Int)*8):=by omega
   clear D;go_enter Tryz.func178,Tryz.ntmps178;go_wp2_with (go_at_call 177;refine(Aa S _).mono ?_;rintro e w' ⟨rfl,rfl⟩);go_ret2;exact⟨_,[],2,rfl,Own.nil _ _,Aa g,Below.refl _ _⟩
  ·have hd:¬((s.size:Int)<((sizeOfK k:Nat):Int)*8):=by omega
   have Q:=Ab (fun xs e=>Ub (s:=s) (k:=k) (xs:=xs) (e:=e) D h1);obtain⟨i0,H,J,K,L⟩:=info_parts Jj;obtain⟨wm,ac,f,a⟩:=run_make_full (P:=Tryz.prog) w w.heap.size 32 69 i0 (.int .u64 0) 1 Tryz.underlying32 H J K .i64 .i64 (sizeOfK k) (by rw[L];omega) (by unfold maxLen;omega) (Nat.le_refl _);have r:=Vl f;have hb:Below w.heap.size w wm:=(Below.refl _ _).grown a (Nat.le_refl _) (fun k hk=>by cases hk);rw[<-jZ (tx s) (sizeOfK k)]at r;have m:=Ab r;have N:=Ab hb;generalize sizeOfK k=n at*;clear f a r hb H J K L;go_enter Tryz.func178,Tryz.ntmps178;go_wp2_with (go_at_call 177;refine(Aa S _).mono ?_;rintro e w' ⟨rfl,hw⟩;obtain rfl:=hw.symm);go_loopw [22] (fun i wr=> ∃j:Nat,j<=n/\i=.int .i64 j/\Hid (Own wr w.heap.size (.slice (some ⟨w.heap.size,0,none⟩) n n) (BL (tx s) n j))/\Hid (Below w.heap.size w wr)) (fun i _=>n-(intOf i).toNat)
   case atStart=>exact⟨0,Nat.zero_le _,rfl,m,N⟩
   case round=>
    obtain⟨j,hj,rfl,m,N⟩:=hrel;by_cases Y:j<n
    ·have y:=dF (tx s) n j (by omega)
     have r:=Aa m;have hx:num (((tx s).drop (8*j)).take 8)<18446744073709551616:=IA (k:=8) (FK (FJ (Bk s) _) 8) (List.length_take_le ..);have V:(s.extract (j*8) ((j+1)*8)).size=8:=by rw[ByteArray.size_extract];omega
     have C:=Ab (fun wx=>R8 (s.extract (j*8) ((j+1)*8)) (by omega) wx);rw[show j*8=8*j by omega,show(j+1)*8=8*(j+1) by omega,Ze]at C;rw[show 8*(j+1)=(j+1)*8 by omega]at C;rw[show tx s=tx s from rfl]at C;have I:=oH (tx s) n j Y;generalize aa:num (((tx s).drop (8*j)).take 8)=x at*;rw[show 8*j=j*8 by omega]at C;obtain⟨g',ab,A,ad,af,E,G⟩:=((show Own wr w.heap.size (.slice (some ⟨w.heap.size,0,none⟩) n n) (BL (tx s) n j) from r)).at (by omega);have q:=E j (by omega);have ae:=G j;have u:=(show Own wr w.heap.size (.slice (some ⟨w.heap.size,0,none⟩) (BL (tx s) n j).length n) (BL (tx s) n j) by rw[y];exact r).stored j x hx;rw[y,I]at u;simp only[Value.slice.injEq,Option.some.injEq,Addr.mk.injEq,and_true]at A;obtain⟨rfl, -, -⟩:=A;have HS:=Ab u;have O:=Ab ((Aa N).setCell (p:=⟨w.heap.size,j,none⟩) (Nat.le_refl _) (.int .u64 (x:Int)));generalize (BL (tx s) n j).getD j 0=z at q;clear E G u r y I V m aa Q;go_wp2_with (go_at_call 202;refine(Aa C _).mono ?_;rintro e w' ⟨rfl,hw⟩;obtain rfl:=hw.symm);go_roundw
     case rel=>exact⟨j+1,by omega,by go_num,HS,O⟩
     case measure=>simp[intOf];omega
    ·have W:j=n:=by omega
     subst W;rw[oG]at m;have y:=I8 (tx s) j;obtain⟨a1,c1,A,Z⟩:=(Aa m).row;rw[y]at A Z;simp only[Value.slice.injEq,true_and]at A;obtain⟨rfl,rfl⟩:=A;have HV:=Ab (LM _ j j _ k _ Z);clear Z y;go_wp2_with fail;refine(Aa HV).mono ?_;rintro e w' ⟨⟨b,rfl,d⟩,c⟩;have R:=Ab ((Aa m).below c);have B:=Ab (Ad (Aa N) c);cases b with
     |true=>
      have g:=Ab ((Aa Q _ _).2 (.inr ⟨d.1 rfl,rfl,rfl⟩));clear d c;go_wp2;go_ret2;exact⟨_,_,0,rfl,Aa R,Aa g,Aa B⟩
     |false=>
      have g:=Ab ((Aa Q _ _).2 (.inl ⟨fun h=>by simpa using d.2 h,rfl,rfl⟩));clear d c;go_wp2;go_ret2;exact⟨_,[],3,rfl,Own.nil _ _,Aa g,Aa B⟩
theorem nl(xs:List Nat)(a q:Nat):(xs.drop a).getD q 0=xs.getD (a+q) 0:=by
 rw[List.getD_eq_getElem?_getD,List.getElem?_drop,List.getD_eq_getElem?_getD]
theorem dS(s:ByteArray)(k:Int)(w:World)(ad:s.size<=9223372036854775807):
  Calls Tryz.prog 117 #[.string s,.int .i64 k] w fun e w'=> ∃v xs en,e=.returned (.tuple #[v,.int .i64 ((en:Nat):Int)])/\Own w' w.heap.size v xs/\Co s k xs en/\Below w.heap.size w w':=by
 have K:=Ab (Ol k);have S:=DL k;by_cases A:sizeOfK k=0
 ·have N:(((sizeOfK k:Nat):Int)==0)=true:=by rw[A];rfl
  have g:=Ab (show Co s k [] 1 from .inl ⟨A,rfl,rfl⟩);clear A S;go_enter Tryz.func117,Tryz.ntmps117;go_wp2_with (go_at_call 100;refine(Aa K _).mono ?_;rintro e w' ⟨rfl,rfl⟩);go_ret2;exact⟨_,[],1,rfl,Own.nil _ _,Aa g,Below.refl _ _⟩
 ·have N:(((sizeOfK k:Nat):Int)==0)=false:=by simp only[beq_eq_false_iff_ne,ne_eq];omega
  by_cases h1:s.size<8*sizeOfK k
  ·have g:=Ab (show Co s k [] 2 from .inr (.inl ⟨by omega,h1,rfl,rfl⟩))
   have hd:((s.size:Int)<8*((sizeOfK k:Nat):Int)):=by omega
   clear A;go_enter Tryz.func117,Tryz.ntmps117;go_wp2_with (go_at_call 100;refine(Aa K _).mono ?_;rintro e w' ⟨rfl,rfl⟩);go_ret2;exact⟨_,[],2,rfl,Own.nil _ _,Aa g,Below.refl _ _⟩
  ·have hd:¬((s.size:Int)<8*((sizeOfK k:Nat):Int)):=by omega
   have E:=Ab (fun xs e=>Ub (s:=s) (k:=k) (xs:=xs) (e:=e) A h1);generalize sizeOfK k=n at*;go_enter Tryz.func117,Tryz.ntmps117;go_wp2_with (go_at_call 100;refine(Aa K _).mono ?_;rintro e w' ⟨rfl,Y⟩;obtain rfl:=Y.symm);go_loopw [7,8] (fun v i wr=> ∃(j:Nat) (a:Option Addr) (c:Nat),j<=n/\i=.int .i64 j/\v=.slice a j c/\Hid (Own wr w.heap.size (.slice a j c) (wsL (tx s) j))/\Hid (Below w.heap.size w wr)) (fun _ i _=>n-(intOf i).toNat)
   case atStart=>exact⟨0,none,0,Nat.zero_le _,rfl,rfl,Ab (Own.nil _ _),Ab (Below.refl _ _)⟩
   case round=>
    obtain⟨j,a,c,hj,rfl,rfl,r,u⟩:=hrel;by_cases ab:j<n
    ·have D:=AQ s
     have C:=Bk s;go_wp2;go_loop [9,10] (fun t i=> ∃q x:Nat,q<=8/\i=.int .i64 q/\t=.int .u64 (x:Int)/\Hid (x=num (((tx s).drop (8*j)).take q))) (fun _ i=>8-(intOf i).toNat)
     case atStart=>exact⟨0,0,Nat.zero_le _,rfl,rfl,Ab (by simp[num])⟩
     case round=>
      obtain⟨q,x,hq,rfl,rfl,G⟩:=hrel;by_cases ac:q<8
      ·have Q:8*j+q<s.size:=by omega
       have aa:=Eb s (8*j+q) Q;have O:=C.get (8*j+q);have T:x<72057594037927936:=by
        rw[Aa G];exact Nat.lt_of_lt_of_le (Lb (FJ C (8*j)) q) (Nat.pow_le_pow_right (n:=256) (by decide) (show q<=7 by omega))
       have Z:=Ab (OD (xs:=(tx s).drop (8*j)) (k:=q) (by rw[List.length_drop];omega));rw[nl,<-Aa G]at Z;have HP:=Ab (Vw x _ T O);generalize (tx s).getD (8*j+q) 0=b at*;clear D C E r u;go_wp2;go_round
       case rel=>exact⟨q+1,x*256+b,by omega,by go_num,by rw[Aa HP],Ab (by rw[Aa Z])⟩
       case measure=>simp[intOf];omega
      ·have V:q=8:=by omega
       subst V;have hx:x<18446744073709551616:=by
        rw[Aa G];exact Lb (FJ C (8*j)) 8
       have J:=Ab (OO (tx s) j);rw[<-Aa G]at J;have m:=I8 (tx s) j;obtain⟨p,hp⟩:∃p,wsL (tx s) j=p:=⟨_,rfl⟩;rw[hp]at r J m;have y:=Ab m;clear hp D C E m;go_wp2_with (first|(at_builtin;refine cK rfl _ _ rfl w.heap.size _ p x rfl rfl (Aa r) (Aa u).size (by have:=Aa y;omega) hx rfl ?_));intro s' w' d B;obtain⟨a',c',rfl, -⟩:=d.row;have L:(p++[x]).length=j+1:=by rw[List.length_append,Aa y];rfl
       rw[L]at d;rw[L];have I:=Ab d;have H:=Ab B;clear d B r L;go_wp2;go_roundw
       case rel=>exact⟨j+1,a',c',by omega,by go_num,rfl,by rw[Aa J];exact I,Ab ((Aa u).trans (Aa H))⟩
       case measure=>simp[intOf];omega
    ·have R:j=n:=by omega
     subst R;have D:=I8 (tx s) j;obtain⟨a1,c1,X,W⟩:=(Aa r).row;rw[D]at X W;simp only[Value.slice.injEq,true_and]at X;obtain⟨rfl,rfl⟩:=X;have HV:=Ab (Rz a j c _ k _ W);clear W D;go_wp2_with fail;refine(Aa HV).mono ?_;rintro e w' ⟨⟨b,rfl,f⟩,Y⟩;obtain rfl:=Y.symm;cases b with
     |true=>
      have g:=Ab ((Aa E _ _).2 (.inr ⟨f.1 rfl,rfl,rfl⟩));clear f;go_wp2;go_ret2;exact⟨_,_,0,rfl,Aa r,Aa g,Aa u⟩
     |false=>
      have g:=Ab ((Aa E _ _).2 (.inl ⟨fun h=>by simpa using f.2 h,rfl,rfl⟩));clear f;go_wp2;go_ret2;exact⟨_,[],3,rfl,Own.nil _ _,Aa g,Aa u⟩
variable {s t:ByteArray}{k z o l h:Int}{xs ts:List Nat}{en:Nat}{P:Prop}
def TB(b:Bool)(P:Prop):Prop:=b=true↔P
theorem Eo(P:Prop):∃b,TB b P:=by
 by_cases h:P
 ·exact⟨true,by simp[TB,h]⟩
 ·exact⟨false,by simp[TB,h]⟩
theorem TB.no{b:Bool}(h:TB b P)(hp:¬P):b=false:=by
 cases b
 ·rfl
 ·exact absurd (h.1 rfl) hp
theorem TB.yes{b:Bool}(h:TB b P)(hp:P):b=true:=h.2 hp
def Ev(en:Nat)(P:Prop):Prop:=(P/\en=0)\/(¬P/\en=1)
theorem KO(P:Prop):∃en,Ev en P:=by
 by_cases h:P
 ·exact⟨0,.inl ⟨h,rfl⟩⟩
 ·exact⟨1,.inr ⟨h,rfl⟩⟩
theorem Ev.yes(h:Ev en P)(hp:P):en=0:=by
 rcases h with⟨_,h⟩|⟨h,_⟩
 ·exact h
 ·exact absurd hp h
theorem Ev.no(h:Ev en P)(hp:¬P):en=1:=by
 rcases h with⟨h,_⟩|⟨_,h⟩
 ·exact absurd h hp
 ·exact h
def Gm(k z:Int):Prop:=(1<=k/\k<=128)/\1<=z/\z<=64
def Jv(o l k z h:Int):Prop:=Gm k z/\(0<=o/\o<=4294967295)/\(0<=l/\l<=k*z)/\0<=h/\h<=15
def Jx(k z:Int)(xs:List Nat)(n:Nat):Prop:=BU k xs/\0<cnt xs/\(n:Int)=z
def BS(o l k z h:Int)(xs:List Nat)(n:Nat):Prop:=Jv o l k z h/\Jx k z xs n
theorem MC(h:Gm k z):0<=k*z/\k*z<=8192:=by
 obtain⟨⟨d,a⟩,e,f⟩:=h;have b:0<=k*z:=Int.mul_nonneg (by omega) (by omega);have c:k*z<=128*z:=Int.mul_le_mul_of_nonneg_right a (by omega);omega
def BF(o l k z h:Int)(xs ts:List Nat):List Nat:=Bz o 4++Bz l 4++Bz k 1++Bz z 1++Bz h 1++CT xs++ts
theorem J0(o l k z h:Int)(xs ts:List Nat)(ht:bytes ts):bytes (BF o l k z h xs ts):=
 FM (FM (FM (FM (FM (FM (Gi _ _) (Gi _ _)) (Gi _ _)) (Gi _ _)) (Gi _ _)) (SR _)) ht
theorem Fu(n:Int):Bz n 4=be 4 (m64 n):=OG (.inr (.inr rfl))
theorem Ec(n:Int):Bz n 1=be 1 (m64 n):=OG (.inl rfl)
theorem IR(n:Nat):be 1 n=[n%256]:=by simp[be]
theorem Ea{n:Int}{m:Nat}(h:n=(m:Int))(a:m<18446744073709551616):m64 n=m:=by
 subst h;unfold m64;omega
theorem WT:∀xs:List Nat,bytes xs->be xs.length (num xs)=xs
 |[],_=>rfl
 |x::r,h=>by
  have b:x<256:=h x (List.mem_cons_self ..);have a:bytes r:=fun y f=>h y (List.mem_cons_of_mem _ f);have c:=PM a;rw[List.length_cons,be,OC];have d:(x*256^r.length+num r)/256^r.length=x:=by
   rw[Nat.mul_comm,Nat.mul_add_div (Nat.pow_pos (by decide)),Nat.div_eq_of_lt c,Nat.add_zero]
  have e:be r.length (x*256^r.length+num r)=be r.length (num r):=WS _ _ _ (by rw[Nat.mul_add_mod_self_right]);rw[d,e,WT r a,Nat.mod_eq_of_lt b]
theorem LL{W:Nat}(h:bytes xs)(a:xs.length=W):be W (num xs)=xs:=by rw[<-a];exact WT xs h
theorem VI{xs:List Nat}(h:bytes xs):∀n,8*n<=xs.length->CT (wsL xs n)=xs.take (8*n)
 |0,_=>by simp[wsL,CT]
 |n+1,b=>by
  have a:=VI h n (by omega);have e:CT (wsL xs n++[num ((xs.drop (8*n)).take 8)])=CT (wsL xs n)++be 8 (num ((xs.drop (8*n)).take 8)):=by simp[CT]
  rw[OO,e,a,LL (FK (FJ h _) _) (by rw[List.length_take,List.length_drop];omega),show 8*(n+1)=8*n+8 by omega,List.take_add]
def dO(s:ByteArray):Nat:=num ((tx s).take 4)
def dL(s:ByteArray):Nat:=num (((tx s).drop 4).take 4)
def dK(s:ByteArray):Nat:=(tx s).getD 8 0
def dZ(s:ByteArray):Nat:=(tx s).getD 9 0
def dH(s:ByteArray):Nat:=(tx s).getD 10 0
def dN(s:ByteArray):Nat:=11+8*sizeOfK (dK s)
def dX(s:ByteArray):List Nat:=wsL ((tx s).drop 11) (sizeOfK (dK s))
def Cs(s:ByteArray):Prop:=s.size<11\/(Gm (dK s) (dZ s)/\s.size<dN s+dZ s)
def Ct(s:ByteArray):Prop:=BS (dO s) (dL s) (dK s) (dZ s) (dH s) (dX s) (s.size-dN s)
def A6(o l k z h:Int)(xs:List Nat)(t:ByteArray):Prop:=o=0/\l=0/\k=0/\z=0/\h=0/\xs=[]/\t=⟨#[]⟩
def O1(s:ByteArray)(o l k z h:Int)(xs:List Nat)(t:ByteArray):Prop:=o=dO s/\l=dL s/\k=dK s/\z=dZ s/\h=dH s/\xs=dX s/\t=s.extract (dN s) s.size
def BP(s:ByteArray)(o l k z h:Int)(xs:List Nat)(t:ByteArray)(en:Nat):Prop:=
 (Cs s/\en=2/\A6 o l k z h xs t)\/(¬Cs s/\¬Ct s/\en=3/\A6 o l k z h xs t)\/(¬Cs s/\Ct s/\en=0/\O1 s o l k z h xs t)
theorem BP.uniq {s : ByteArray} {o l k z h q p n v m : Int} {xs u : List Nat} {t r : ByteArray} {en e : Nat} (w : BP s o l k z h xs t en) (x : BP s q p n v m u r e) :
    (o = q /\ l = p /\ k = n /\ z = v /\ h = m) /\ xs = u /\ t = r /\ en = e := by
  rcases w with ⟨a, b, c⟩ | ⟨a, g, b, c⟩ | ⟨a, g, b, c⟩ <;> rcases x with ⟨f, i, j⟩ | ⟨f, d, i, j⟩ | ⟨f, d, i, j⟩
  all_goals first
    | exact absurd a f
    | exact absurd f a
    | exact absurd g d
    | exact absurd d g
    | (obtain ⟨y, A, B, C, D, E, G⟩ := c
       obtain ⟨H, I, J, K, L, N, O⟩ := j;rw [y, A, B, C, D, E, G, H, I, J, K, L, N, O, b, i];exact ⟨⟨rfl, rfl, rfl, rfl, rfl⟩, rfl, rfl, rfl⟩)
theorem BP.short(b:BP s o l k z h xs t en)(a:Cs s):en=2:=by
 rcases b with⟨_,h,_⟩|⟨h,_⟩|⟨h,_⟩
 ·exact h
 ·exact absurd a h
 ·exact absurd a h
theorem BP.err(b:BP s o l k z h xs t en):(en=0/\¬Cs s/\Ct s/\O1 s o l k z h xs t)\/((en=2\/en=3)/\A6 o l k z h xs t):=by
 rcases b with⟨_,h,a⟩|⟨_,_,h,a⟩|⟨c,b,h,a⟩
 ·exact .inr ⟨.inl h,a⟩
 ·exact .inr ⟨.inr h,a⟩
 ·exact .inl ⟨h,c,b,a⟩
theorem dv{p q:List Nat}{i:Nat}(h:i<p.length):(p++q).getD i 0=p.getD i 0:=by
 simp[List.getD_eq_getElem?_getD,List.getElem?_append_left h]
theorem Ys{us:List Nat}(n:Jv o l k z h)(J:Ac xs)(I:xs.length=sizeOfK k)(m:11<=s.size)(hp:∃r,tx s++r=BF o l k z h xs ts):
  o=dO s/\l=dL s/\k=dK s/\z=dZ s/\h=dH s:=by
 obtain⟨r,a⟩:=hp;have H:=AQ s;obtain⟨⟨⟨q,u⟩,B,C⟩,⟨o1,o2⟩,⟨K,L⟩,D,E⟩:=n;have p:=MC ⟨⟨q,u⟩,B,C⟩;have e:BF o l k z h xs ts=be 4 (m64 o)++(be 4 (m64 l)++([m64 k%256,m64 z%256,m64 h%256]++(CT xs++ts))):=by
  unfold BF;rw[Fu,Fu,Ec,Ec,Ec,IR,IR,IR];simp
 rw[e]at a;have x:m64 o=o.toNat:=Ea (by omega) (by omega);have w:m64 l=l.toNat:=Ea (by omega) (by omega);have mk:m64 k=k.toNat:=Ea (by omega) (by omega);have y:m64 z=z.toNat:=Ea (by omega) (by omega);have v:m64 h=h.toNat:=Ea (by omega) (by omega);have t4:(tx s).take 4=be 4 (m64 o):=by
  have:=congrArg (List.take 4) a;rw[List.take_append_of_le_length (by omega),List.take_append_of_le_length (by rw[C5];omega),List.take_of_length_le (l:=be 4 (m64 o)) (by rw[C5];omega)]at this;exact this
 have c:(tx s).drop 4++r=be 4 (m64 l)++([m64 k%256,m64 z%256,m64 h%256]++(CT xs++ts)):=by
  have:=congrArg (List.drop 4) a;rw[List.drop_append_of_le_length (by omega),List.drop_append_of_le_length (by rw[C5];omega),(show(be 4 (m64 o)).drop 4=[] from List.drop_eq_nil_of_le (by rw[C5];omega)),List.nil_append]at this;exact this
 have A:((tx s).drop 4).take 4=be 4 (m64 l):=by
  have:=congrArg (List.take 4) c;rw[List.take_append_of_le_length (by rw[List.length_drop];omega),List.take_append_of_le_length (by rw[C5];omega),List.take_of_length_le (l:=be 4 (m64 l)) (by rw[C5];omega)]at this;exact this
 have g:∀i,i<11->(tx s).getD i 0=(be 4 (m64 o)++(be 4 (m64 l)++([m64 k%256,m64 z%256,m64 h%256]++(CT xs++ts)))).getD i 0:=fun i G=>by
  rw[<-a,dv (by omega)]
 have d:dK s=m64 k%256:=by
  unfold dK;rw[g 8 (by omega)];simp[be]
 have f:dZ s=m64 z%256:=by
  unfold dZ;rw[g 9 (by omega)];simp[be]
 have b:dH s=m64 h%256:=by
  unfold dH;rw[g 10 (by omega)];simp[be]
 have go:dO s=m64 o%256^4:=by unfold dO;rw[t4,KH]
 have j:dL s=m64 l%256^4:=by unfold dL;rw[A,KH]
 rw[go,j,d,f,b,x,w,mk,y,v];refine⟨?_,?_,?_,?_,?_⟩<;>omega
theorem Xa:(BF o l k z h xs ts).length=11+8*xs.length+ts.length:=by
 unfold BF;simp only[List.length_append,Fu,Ec,C5,I3]
theorem UF:(BF o l k z h xs ts).drop 11=CT xs++ts:=by
 unfold BF;rw[List.append_assoc _ (CT xs),List.drop_append_of_le_length (by simp only[List.length_append,Fu,Ec,C5];omega),List.drop_eq_nil_of_le (by simp only[List.length_append,Fu,Ec,C5];omega),List.nil_append]
theorem enc_size(o l k z h:Int)(xs:List Nat)(t:ByteArray):(st (BF o l k z h xs (tx t))).size=11+8*xs.length+t.size:=by rw[Dz,Xa,AQ]
theorem VZ(n:Ac xs)(a:BS o l k z h xs t.size):
  ¬Cs (st (BF o l k z h xs (tx t)))/\Ct (st (BF o l k z h xs (tx t)))/\O1 (st (BF o l k z h xs (tx t))) o l k z h xs t:=by
 have u:=enc_size o l k z h xs t;have ht:=DD (J0 o l k z h xs (tx t) (Bk t));have r:=Ys (s:=st (BF o l k z h xs (tx t))) (us:=[]) a.1 n a.2.1.2.1 (by omega) ⟨[],by rw[ht,List.append_nil]⟩;generalize v:st (BF o l k z h xs (tx t))=s at*;obtain⟨d,e,b,f,g⟩:=r;have m:xs.length=sizeOfK k:=a.2.1.2.1;have w:(t.size:Int)=z:=a.2.2.2;have c:dN s=11+8*xs.length:=by unfold dN;rw[<-b,m]
 have i:dX s=xs:=by unfold dX;rw[<-b,<-m,ht,UF,Wx xs _ n]
 have q:t=s.extract (dN s) s.size:=by
  apply IQ;have p:11+8*xs.length=8*xs.length+11:=by omega
  rw[El,ht,c,<-List.drop_drop,UF,List.drop_append_of_le_length (by rw[I3];exact Nat.le_refl _),List.drop_eq_nil_of_le (by rw[I3];exact Nat.le_refl _),List.nil_append,List.take_of_length_le (by rw[AQ];omega)]
 refine⟨?_,?_,d,e,b,f,g,i.symm,q⟩
 ·rintro(j|⟨_,j⟩)
  ·omega
  ·rw[c]at j
   omega
 ·unfold Ct
  rw[<-d,<-e,<-b,<-f,<-g,i,c,show s.size-(11+8*xs.length)=t.size by omega];exact a
theorem W9(f:¬Cs s)(j:Ct s):
  (s.extract (dN s) s.size).size=s.size-dN s/\st (BF (dO s) (dL s) (dK s) (dZ s) (dH s) (dX s) (tx (s.extract (dN s) s.size)))=s:=by
 have e:=j.1.1;have d:dN s+dZ s<=s.size:=by
  have:¬s.size<dN s+dZ s:=fun h=>f (.inr ⟨e,h⟩);omega
 have g:11<=s.size:=by
  have:¬s.size<11:=fun h=>f (.inl h);omega
 have w:=AQ s;have b:=Bk s;refine⟨by rw[ByteArray.size_extract];omega,?_⟩;apply IQ;rw[DD (J0 _ _ _ _ _ _ _ (Bk _)),El];have a:∀i,(tx s).getD i 0<256:=fun i=>b.get i;have p:m64 (dO s:Int)=dO s:=Ea rfl (Nat.lt_trans (IA (FK b 4) (k:=4) (by rw[List.length_take];omega)) (by decide));have n:m64 (dL s:Int)=dL s:=Ea rfl (Nat.lt_trans (IA (FK (FJ b 4) 4) (k:=4) (by rw[List.length_take];omega)) (by decide));have mk:m64 (dK s:Int)=dK s:=Ea rfl (Nat.lt_trans (a 8) (by decide));have q:m64 (dZ s:Int)=dZ s:=Ea rfl (Nat.lt_trans (a 9) (by decide));have m:m64 (dH s:Int)=dH s:=Ea rfl (Nat.lt_trans (a 10) (by decide))
 have c:∀i,i<s.size->be 1 ((tx s).getD i 0)=((tx s).drop i).take 1:=fun i v=>by
  rw[IR,Nat.mod_eq_of_lt (a i)];have:i<(tx s).length:=by omega
  rw[List.drop_eq_getElem_cons this,List.take_succ_cons,List.take_zero,List.getD_eq_getElem?_getD,List.getElem?_eq_getElem this];rfl
 unfold BF;rw[Fu,Fu,Ec,Ec,Ec,p,n,mk,q,m];have r:be 4 (dO s)=(tx s).take 4:=LL (FK b 4) (by rw[List.length_take];omega);have u:be 4 (dL s)=((tx s).drop 4).take 4:=LL (FK (FJ b 4) 4) (by rw[List.length_take,List.length_drop];omega);have wx:CT (dX s)=((tx s).drop 11).take (8*sizeOfK (dK s)):=VI (FJ b 11) _ (by rw[List.length_drop];unfold dN at d;omega);rw[r,u,show be 1 (dK s)=((tx s).drop 8).take 1 from c 8 (by omega),show be 1 (dZ s)=((tx s).drop 9).take 1 from c 9 (by omega),show be 1 (dH s)=((tx s).drop 10).take 1 from c 10 (by omega),wx];rw[<-List.take_add,<-List.take_add,<-List.take_add,<-List.take_add,<-List.take_add];rw[show 4+4+1+1+1+8*sizeOfK (dK s)=dN s from by unfold dN;omega];rw[List.take_of_length_le (l:=(tx s).drop (dN s)) (by rw[List.length_drop];omega),List.take_append_drop]
theorem pT(xs:List Nat)(n:Nat):wsL (xs.take (8*n)) n=wsL xs n:=by
 unfold wsL;apply List.map_congr_left;intro i a;rw[List.mem_range]at a;rw[List.drop_take,List.take_take,show min 8 (8*n-8*i)=8 by omega]
theorem jN(s:ByteArray):wsL (tx (s.extract 11 (dN s))) (sizeOfK (dK s))=dX s:=by
 rw[El,show dN s-11=8*sizeOfK (dK s) by unfold dN;omega,pT];rfl
theorem Ua{D:Nat}(f:dN s=D)(m:s.size=D+dZ s)(g:0<sizeOfK (dK s))(j:Co (s.extract 11 D) (dK s) xs en):
  (BS (dO s) (dL s) (dK s) (dZ s) (dH s) xs (dZ s)↔Ct s)/\(BS (dO s) (dL s) (dK s) (dZ s) (dH s) xs (dZ s)->xs=dX s):=by
 have e:=jN s;rw[f]at e;have i:s.size-dN s=dZ s:=by omega
 have n:(s.extract 11 D).size=8*sizeOfK (dK s):=by rw[ByteArray.size_extract,<-f];unfold dN at*;omega
 unfold Ct;rw[i];rcases j with⟨a,_⟩|⟨_,b,_⟩|⟨_,_,c,_,d⟩|⟨_,_,c,_,d⟩
 ·omega
 ·omega
 ·rw[e]at c
  subst d;exact⟨⟨fun h=>absurd h.2.1.1 (by simp),fun h=>absurd h.2.1 c⟩,fun h=>absurd h.2.1.1 (by simp)⟩
 ·rw[e]at d
  subst d;exact⟨Iff.rfl,fun _=>rfl⟩
end Go.Proofs.YtfpfcnfmigaphaaGreatDoor
