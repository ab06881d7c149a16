/-
  Laws that the proof stands on.
-/
import Derived.Test.YtmmikiikddokgaaGreatDoorU15
namespace Go.Proofs.YtmmikiikddokgaaGreatDoor
open Go.RowKit
set_option linter.unusedVariables false
set_option linter.unusedSimpArgs false
set_option maxRecDepth 4000
set_option maxHeartbeats 8000000
variable {k:Int}
theorem XD(x d:Nat):(x:Int)/2^(8*d)%256=((x/256^d%256:Nat):Int):=by
 rw[show(2:Int)^(8*d)=((256^d:Nat):Int) by rw[Int.pow_mul];simp];simp
theorem VD(W:Nat)(V:0<W)(hW:W<=8)(a:Option Addr)(n c:Nat)(xs:List Nat)(w:World)(h:RowAt w a n xs)(Y:n<=1048576):
  Calls Tryz.prog 172 #[.int .i64 (W:Int),.slice a n c] w fun e w'=>e=.returned (.string (st (xs.flatMap (be W))))/\Below w.heap.size w w':=by
 obtain rfl:n=xs.length:=h.1.symm;have D:(W:Int)*(xs.length:Int)=((W*xs.length:Nat):Int):=by simp
 have L:W*xs.length<=8388608:=Nat.le_trans (Nat.mul_le_mul hW Y) (by decide);have N:=Ab (Tl w.heap.size w.heap.size (W*xs.length) (w.alloc (.cells #[.pointer none,.slice none 0 0] 298)) (Nat.le_refl _) (heap_alloc_new w _) (by simp) (by omega));have A:Below w.heap.size w (w.alloc (.cells #[.pointer none,.slice none 0 0] 298)):=(Below.refl _ _).alloc (Nat.le_refl _) _;generalize W*xs.length=m at*;go_enter Tryz.func172,Tryz.ntmps172;go_wp2_with (go_at_call 204;refine(Aa N).mono ?_;rintro e w1 ⟨rfl,u,B⟩);have O:=A.trans B;have q:=Ab u;have r:=Ab O;clear A B u O N L D;go_loopw [16] (fun i wr=> ∃k:Nat,k<=xs.length/\i=.int .i64 k/\Hid (Gs wr w.heap.size w.heap.size ((xs.take k).flatMap (be W)))/\Hid (Below w.heap.size w wr)) (fun i _=>xs.length-(intOf i).toNat)
 case atStart=>exact⟨0,Nat.zero_le _,rfl,Ab (by simpa using Aa q),r⟩
 case round=>
  obtain⟨k,hk,rfl,f,d⟩:=hrel;clear q r;by_cases p:k<xs.length
  ·obtain⟨b,off,rfl,Q⟩:=(h.below (Aa d)).at p
   have H:=Q k p;have hx:=h.2.1.get k;have T:=Ab (mS W p);have Z:((xs.take k).flatMap (be W)).length<=8388608:=by
    rw[Sb,List.length_take];exact Nat.le_trans (Nat.mul_le_mul (show min k xs.length<=1048576 by omega) hW) (by decide)
   generalize xs.getD k 0=x at*;generalize (xs.take k).flatMap (be W)=E at*;clear Q;go_wp2;go_loopw [21] (fun i R=> ∃j:Nat,j<=W/\i=.int .i64 j/\Hid (Gs R w.heap.size w.heap.size (E++(be W x).take j))/\Hid (Below w.heap.size w R)) (fun i _=>W-(intOf i).toNat)
   case atStart=>exact⟨0,Nat.zero_le _,rfl,Ab (by simpa using Aa f),d⟩
   case round=>
    obtain⟨j,hj,rfl,f,d⟩:=hrel;by_cases J:j<W
    ·have X:=XD x (W-1-j)
     have S:=Ab (Wm W x j J);have hy:x/256^(W-1-j)%256<256:=Nat.mod_lt _ (by decide);generalize x/256^(W-1-j)%256=y at*;have C:(E++(be W x).take j).length<=1073741824:=by
      rw[List.length_append];have:=List.length_take_le j (be W x);omega
     have G:=Ab (jA w.heap.size w.heap.size _ y _ (Aa f) hy C (Aa d).size);clear C;go_wp2_with (go_at_call 205;refine(Aa G).mono ?_;rintro e w' ⟨rfl,v,g⟩);rw[List.append_assoc,<-Aa S]at v;go_roundw
     case rel=>exact⟨j+1,by omega,by go_num,Ab v,Ab ((Aa d).trans g)⟩
     case measure=>simp[intOf];omega
    ·have I:j=W:=by omega
     subst I;rw[List.take_of_length_le (by rw[C3];exact Nat.le_refl _),<-Aa T]at f;go_wp2;go_roundw
     case rel=>exact⟨k+1,by omega,by go_num,f,d⟩
     case measure=>simp[intOf];omega
  ·have K:k=xs.length:=by omega
   subst K;rw[List.take_length]at f;have G:=Ab (Uw w.heap.size w.heap.size _ _ (Aa f) (Aa d).size);go_wp2_with (go_at_call 206;refine(Aa G).mono ?_;rintro e w' ⟨rfl,g⟩);go_ret;exact⟨rfl,(Aa d).trans g⟩
def m64(n:Int):Nat:=(n%18446744073709551616).toNat
theorem ZX(n:Int):m64 n<18446744073709551616:=by unfold m64;omega
theorem py(n:Int):IntKind.u64.wrap n=((m64 n:Nat):Int):=by rw[IntKind.wrap_u64];unfold m64;omega
def BC(n k:Int):List Nat:=if k=1\/k=2\/k=4 then be k.toNat (m64 n)else []
theorem Pb{n:Int}(h:ED k):BC n k=be k.toNat (m64 n):=if_pos h
theorem YZ{n:Int}(h:¬ED k):BC n k=[]:=if_neg h
theorem GE(n k:Int):bytes (BC n k):=by
 unfold BC;split
 ·exact OW _ _
 ·exact Jn
theorem ZG:st []=⟨#[]⟩:=rfl
theorem In(n k:Int)(w:World):
  Calls Tryz.prog 147 #[.int .i64 n,.int .i64 k] w fun e w'=>e=.returned (.string (st (BC n k)))/\Below w.heap.size w w':=by
 by_cases h:ED k
 ·rw[Pb h]
  have b:=Ab (fun wx=>Oo k h wx);obtain⟨W,rfl,hW⟩:=Ud h;have f:=py n;have a:=ZX n;rw[Int.toNat_natCast];generalize m64 n=m at*;have c:=Ab (VD W (by omega) (by omega) _ 1 1 [m] _ (rB w m a) (by omega));clear h hW a;go_enter Tryz.func147,Tryz.ntmps147;go_wp2_with (first|(go_at_call 171;refine(Aa b _).mono ?_;rintro e w' ⟨rfl,rfl⟩)|(go_at_call 172;refine(Aa c).mono ?_;rintro e w' ⟨rfl,d⟩));go_ret;exact⟨rfl,PT (Below.refl _ _) d⟩
 ·rw[YZ h,ZG]
  have b:=Ab (fun wx=>UW k h wx);clear h;go_enter Tryz.func147,Tryz.ntmps147;go_wp2_with (go_at_call 171;refine(Aa b _).mono ?_;rintro e w' ⟨rfl,rfl⟩);go_ret;exact⟨rfl,Below.refl _ _⟩
theorem im(a:Option Addr)(n c:Nat)(xs:List Nat)(w:World)(h:RowAt w a n xs)(b:n<=1048576):
  Calls Tryz.prog 181 #[.slice a n c] w fun e w'=>e=.returned (.string (st (CO xs)))/\Below w.heap.size w w':=by
 have d:=Ab (VD 8 (by omega) (by omega) a n c xs w h b);clear h b;go_enter Tryz.func181,Tryz.ntmps181;go_wp2_with (go_at_call 172;refine(Aa d).mono ?_;rintro e w' ⟨rfl,f⟩);go_ret;exact⟨rfl,f⟩
def Dd(s:ByteArray)(k:Int)(xs:List Nat)(e:Nat):Prop:=
 (sizeOfK k=0/\e=1/\xs=[])\/(0<sizeOfK k/\s.size<8*sizeOfK k/\e=2/\xs=[])\/
 (0<sizeOfK k/\8*sizeOfK k<=s.size/\¬Cp k (Cj (tx s) (sizeOfK k))/\e=3/\xs=[])\/(0<sizeOfK k/\8*sizeOfK k<=s.size/\Cp k (Cj (tx s) (sizeOfK k))/\e=0/\xs=Cj (tx s) (sizeOfK k))
theorem Dd.uniq{s:ByteArray}{xs n:List Nat}{e f:Nat}(h:Dd s k xs e)(p:Dd s k n f):xs=n/\e=f:=by
 rcases h with⟨a,b,c⟩|⟨a,b,c,d⟩|⟨a,b,c,d,z⟩|⟨a,b,c,d,z⟩<;>rcases p with⟨i,j,g⟩|⟨i,j,g,m⟩|⟨i,j,g,m,q⟩|⟨i,j,g,m,q⟩
 all_goals first
  |omega
  |(subst_vars;exact⟨rfl,rfl⟩)
  |exact absurd g c
  |exact absurd c g
theorem nV{s:ByteArray}{xs:List Nat}{e:Nat}(d:¬sizeOfK k=0)(f:¬s.size<8*sizeOfK k):
  Dd s k xs e↔(¬Cp k (Cj (tx s) (sizeOfK k))/\e=3/\xs=[])\/(Cp k (Cj (tx s) (sizeOfK k))/\e=0/\xs=Cj (tx s) (sizeOfK k)):=by
 unfold Dd;constructor
 ·intro h
  rcases h with⟨a,_⟩|⟨a,b,_⟩|⟨a,b,c⟩|⟨a,b,c⟩
  ·omega
  ·omega
  ·exact .inl c
  ·exact .inr c
 ·rintro(h|h)
  ·exact .inr (.inr (.inl ⟨by omega,by omega,h⟩))
  ·exact .inr (.inr (.inr ⟨by omega,by omega,h⟩))
def BM(xs:List Nat)(n j:Nat):List Nat:=Cj xs j++List.replicate (n-j) 0
theorem eW(xs:List Nat)(n j:Nat)(h:j<=n):(BM xs n j).length=n:=by unfold BM;rw[List.length_append,LK,List.length_replicate];omega
theorem kU(xs:List Nat)(n:Nat):BM xs n 0=List.replicate n 0:=by simp[BM,Cj]
theorem pf(xs:List Nat)(n:Nat):BM xs n n=Cj xs n:=by simp[BM]
theorem pg(xs:List Nat)(n j:Nat)(h:j<n):(BM xs n j).set j (num ((xs.drop (8*j)).take 8))=BM xs n (j+1):=by
 unfold BM;rw[VM,List.set_append,if_neg (by rw[LK];omega),LK,Nat.sub_self,show n-j=(n-(j+1))+1 by omega,List.replicate_succ,List.set_cons_zero,List.append_assoc];rfl
theorem YN(s:ByteArray)(j:Nat):tx (s.extract (8*j) (8*(j+1)))=((tx s).drop (8*j)).take 8:=by
 rw[Es,show 8*(j+1)-8*j=8 by omega]
theorem Sy(s:ByteArray)(k:Int)(w:World)(ag:s.size<=9223372036854775807):
  Calls Tryz.prog 177 #[.string s,.int .i64 k] w fun e w'=> ∃v xs en,e=.returned (.tuple #[v,.int .i64 ((en:Nat):Int)])/\Own w' w.heap.size v xs/\Dd s k xs en/\Below w.heap.size w w':=by
 have S:=Ab (Hc k);have X:=DW k;by_cases D:sizeOfK k=0
 ·have T:(((sizeOfK k:Nat):Int)==0)=true:=by rw[D];rfl
  have g:=Ab (show Dd s k [] 1 from .inl ⟨D,rfl,rfl⟩);clear D X;go_enter Tryz.func177,Tryz.ntmps177;go_wp2_with (go_at_call 176;refine(Aa S _).mono ?_;rintro e w' ⟨rfl,rfl⟩);go_ret2;exact⟨_,[],1,rfl,Own.nil _ _,Aa g,Below.refl _ _⟩
 ·have T:(((sizeOfK k:Nat):Int)==0)=false:=by simp only[beq_eq_false_iff_ne,ne_eq];omega
  by_cases h1:s.size<8*sizeOfK k
  ·have g:=Ab (show Dd s k [] 2 from .inr (.inl ⟨by omega,h1,rfl,rfl⟩))
   have hd:((s.size:Int)<((sizeOfK k:Nat):Int)*8):=by omega
   clear D;go_enter Tryz.func177,Tryz.ntmps177;go_wp2_with (go_at_call 176;refine(Aa S _).mono ?_;rintro e w' ⟨rfl,rfl⟩);go_ret2;exact⟨_,[],2,rfl,Own.nil _ _,Aa g,Below.refl _ _⟩
  ·have hd:¬((s.size:Int)<((sizeOfK k:Nat):Int)*8):=by omega
   have Q:=Ab (fun xs e=>nV (s:=s) (k:=k) (xs:=xs) (e:=e) D h1);obtain⟨i0,H,J,K,L⟩:=info_parts KQ;obtain⟨wm,ac,f,a⟩:=run_make_full (P:=Tryz.prog) w w.heap.size 40 265 i0 (.int .u64 0) 1 Tryz.underlying40 H J K .i64 .i64 (sizeOfK k) (by rw[L];omega) (by unfold maxLen;omega) (Nat.le_refl _);have r:=Vh f;have hb:Below w.heap.size w wm:=(Below.refl _ _).grown a (Nat.le_refl _) (fun k hk=>by cases hk);rw[<-kU (tx s) (sizeOfK k)]at r;have m:=Ab r;have N:=Ab hb;generalize sizeOfK k=n at*;clear f a r hb H J K L;go_enter Tryz.func177,Tryz.ntmps177;go_wp2_with (go_at_call 176;refine(Aa S _).mono ?_;rintro e w' ⟨rfl,hw⟩;obtain rfl:=hw.symm);go_loopw [22] (fun i wr=> ∃j:Nat,j<=n/\i=.int .i64 j/\Hid (Own wr w.heap.size (.slice (some ⟨w.heap.size,0,none⟩) n n) (BM (tx s) n j))/\Hid (Below w.heap.size w wr)) (fun i _=>n-(intOf i).toNat)
   case atStart=>exact⟨0,Nat.zero_le _,rfl,m,N⟩
   case round=>
    obtain⟨j,hj,rfl,m,N⟩:=hrel;by_cases Y:j<n
    ·have y:=eW (tx s) n j (by omega)
     have r:=Aa m;have hx:num (((tx s).drop (8*j)).take 8)<18446744073709551616:=IT (k:=8) (F4 (G7 (Ci s) _) 8) (List.length_take_le ..);have V:(s.extract (j*8) ((j+1)*8)).size=8:=by rw[ByteArray.size_extract];omega
     have C:=Ab (fun wx=>R7 (s.extract (j*8) ((j+1)*8)) (by omega) wx);rw[show j*8=8*j by omega,show(j+1)*8=8*(j+1) by omega,YN]at C;rw[show 8*(j+1)=(j+1)*8 by omega]at C;rw[show tx s=tx s from rfl]at C;have I:=pg (tx s) n j Y;generalize aa:num (((tx s).drop (8*j)).take 8)=x at*;rw[show 8*j=j*8 by omega]at C;obtain⟨g',ab,A,ad,af,E,G⟩:=((show Own wr w.heap.size (.slice (some ⟨w.heap.size,0,none⟩) n n) (BM (tx s) n j) from r)).at (by omega);have q:=E j (by omega);have ae:=G j;have u:=(show Own wr w.heap.size (.slice (some ⟨w.heap.size,0,none⟩) (BM (tx s) n j).length n) (BM (tx s) n j) by rw[y];exact r).stored j x hx;rw[y,I]at u;simp only[Value.slice.injEq,Option.some.injEq,Addr.mk.injEq,and_true]at A;obtain⟨rfl, -, -⟩:=A;have HS:=Ab u;have O:=Ab ((Aa N).setCell (p:=⟨w.heap.size,j,none⟩) (Nat.le_refl _) (.int .u64 (x:Int)));generalize (BM (tx s) n j).getD j 0=z at q;clear E G u r y I V m aa Q;go_wp2_with (go_at_call 207;refine(Aa C _).mono ?_;rintro e w' ⟨rfl,hw⟩;obtain rfl:=hw.symm);go_roundw
     case rel=>exact⟨j+1,by omega,by go_num,HS,O⟩
     case measure=>simp[intOf];omega
    ·have W:j=n:=by omega
     subst W;rw[pf]at m;have y:=LK (tx s) j;obtain⟨a1,c1,A,Z⟩:=(Aa m).row;rw[y]at A Z;simp only[Value.slice.injEq,true_and]at A;obtain⟨rfl,rfl⟩:=A;have HV:=Ab (LZ _ j j _ k _ Z);clear Z y;go_wp2_with fail;refine(Aa HV).mono ?_;rintro e w' ⟨⟨b,rfl,d⟩,c⟩;have R:=Ab ((Aa m).below c);have B:=Ab (Ad (Aa N) c);cases b with
     |true=>
      have g:=Ab ((Aa Q _ _).2 (.inr ⟨d.1 rfl,rfl,rfl⟩));clear d c;go_wp2;go_ret2;exact⟨_,_,0,rfl,Aa R,Aa g,Aa B⟩
     |false=>
      have g:=Ab ((Aa Q _ _).2 (.inl ⟨fun h=>by simpa using d.2 h,rfl,rfl⟩));clear d c;go_wp2;go_ret2;exact⟨_,[],3,rfl,Own.nil _ _,Aa g,Aa B⟩
variable {s t:ByteArray}{k z o l h:Int}{xs ts:List Nat}{en:Nat}{P:Prop}
def TB(b:Bool)(P:Prop):Prop:=b=true↔P
theorem ET(P:Prop):∃b,TB b P:=by
 by_cases h:P
 ·exact⟨true,by simp[TB,h]⟩
 ·exact⟨false,by simp[TB,h]⟩
theorem TB.no{b:Bool}(h:TB b P)(hp:¬P):b=false:=by
 cases b
 ·rfl
 ·exact absurd (h.1 rfl) hp
theorem TB.yes{b:Bool}(h:TB b P)(hp:P):b=true:=h.2 hp
def EJ(en:Nat)(P:Prop):Prop:=(P/\en=0)\/(¬P/\en=1)
theorem M1(P:Prop):∃en,EJ en P:=by
 by_cases h:P
 ·exact⟨0,.inl ⟨h,rfl⟩⟩
 ·exact⟨1,.inr ⟨h,rfl⟩⟩
theorem EJ.yes(h:EJ en P)(hp:P):en=0:=by
 rcases h with⟨_,h⟩|⟨h,_⟩
 ·exact h
 ·exact absurd hp h
theorem EJ.no(h:EJ en P)(hp:¬P):en=1:=by
 rcases h with⟨h,_⟩|⟨_,h⟩
 ·exact absurd h hp
 ·exact h
def I4(k z:Int):Prop:=(1<=k/\k<=128)/\1<=z/\z<=64
def K2(o l k z h:Int):Prop:=I4 k z/\(0<=o/\o<=4294967295)/\(0<=l/\l<=k*z)/\0<=h/\h<=15
def JQ(k z:Int)(xs:List Nat)(n:Nat):Prop:=Cp k xs/\0<cnt xs/\(n:Int)=z
def Cg(o l k z h:Int)(xs:List Nat)(n:Nat):Prop:=K2 o l k z h/\JQ k z xs n
theorem Qa(h:I4 k z):0<=k*z/\k*z<=8192:=by
 obtain⟨⟨d,a⟩,e,f⟩:=h;have b:0<=k*z:=Int.mul_nonneg (by omega) (by omega);have c:k*z<=128*z:=Int.mul_le_mul_of_nonneg_right a (by omega);omega
def BK(o l k z h:Int)(xs ts:List Nat):List Nat:=BC o 4++BC l 4++BC k 1++BC z 1++BC h 1++CO xs++ts
theorem Kb(o l k z h:Int)(xs ts:List Nat)(ht:bytes ts):bytes (BK o l k z h xs ts):=
 F8 (F8 (F8 (F8 (F8 (F8 (GE _ _) (GE _ _)) (GE _ _)) (GE _ _)) (GE _ _)) (Tj _)) ht
theorem Fs(n:Int):BC n 4=be 4 (m64 n):=Pb (.inr (.inr rfl))
theorem D9(n:Int):BC n 1=be 1 (m64 n):=Pb (.inl rfl)
theorem Ja(n:Nat):be 1 n=[n%256]:=by simp[be]
theorem DZ{n:Int}{m:Nat}(h:n=(m:Int))(a:m<18446744073709551616):m64 n=m:=by
 subst h;unfold m64;omega
theorem Xe:∀xs:List Nat,bytes xs->be xs.length (num xs)=xs
 |[],_=>rfl
 |x::r,h=>by
  have b:x<256:=h x (List.mem_cons_self ..);have a:bytes r:=fun y f=>h y (List.mem_cons_of_mem _ f);have c:=QI a;rw[List.length_cons,be,O8];have d:(x*256^r.length+num r)/256^r.length=x:=by
   rw[Nat.mul_comm,Nat.mul_add_div (Nat.pow_pos (by decide)),Nat.div_eq_of_lt c,Nat.add_zero]
  have e:be r.length (x*256^r.length+num r)=be r.length (num r):=Xd _ _ _ (by rw[Nat.mul_add_mod_self_right]);rw[d,e,Xe r a,Nat.mod_eq_of_lt b]
theorem L3{W:Nat}(h:bytes xs)(a:xs.length=W):be W (num xs)=xs:=by rw[<-a];exact Xe xs h
theorem Wl{xs:List Nat}(h:bytes xs):∀n,8*n<=xs.length->CO (Cj xs n)=xs.take (8*n)
 |0,_=>by simp[Cj,CO]
 |n+1,b=>by
  have a:=Wl h n (by omega);have e:CO (Cj xs n++[num ((xs.drop (8*n)).take 8)])=CO (Cj xs n)++be 8 (num ((xs.drop (8*n)).take 8)):=by simp[CO]
  rw[VM,e,a,L3 (F4 (G7 h _) _) (by rw[List.length_take,List.length_drop];omega),show 8*(n+1)=8*n+8 by omega,List.take_add]
def dO(s:ByteArray):Nat:=num ((tx s).take 4)
def dL(s:ByteArray):Nat:=num (((tx s).drop 4).take 4)
def dK(s:ByteArray):Nat:=(tx s).getD 8 0
def dZ(s:ByteArray):Nat:=(tx s).getD 9 0
def dH(s:ByteArray):Nat:=(tx s).getD 10 0
def dN(s:ByteArray):Nat:=11+8*sizeOfK (dK s)
def dX(s:ByteArray):List Nat:=Cj ((tx s).drop 11) (sizeOfK (dK s))
def DK(s:ByteArray):Prop:=s.size<11\/(I4 (dK s) (dZ s)/\s.size<dN s+dZ s)
def ES(s:ByteArray):Prop:=Cg (dO s) (dL s) (dK s) (dZ s) (dH s) (dX s) (s.size-dN s)
def A8(o l k z h:Int)(xs:List Nat)(t:ByteArray):Prop:=o=0/\l=0/\k=0/\z=0/\h=0/\xs=[]/\t=⟨#[]⟩
def Pu(s:ByteArray)(o l k z h:Int)(xs:List Nat)(t:ByteArray):Prop:=o=dO s/\l=dL s/\k=dK s/\z=dZ s/\h=dH s/\xs=dX s/\t=s.extract (dN s) s.size
def Ce(s:ByteArray)(o l k z h:Int)(xs:List Nat)(t:ByteArray)(en:Nat):Prop:=
 (DK s/\en=2/\A8 o l k z h xs t)\/(¬DK s/\¬ES s/\en=3/\A8 o l k z h xs t)\/(¬DK s/\ES s/\en=0/\Pu s o l k z h xs t)
theorem Ce.uniq {s : ByteArray} {o l k z h q p n v m : Int} {xs u : List Nat} {t r : ByteArray} {en e : Nat} (w : Ce s o l k z h xs t en) (x : Ce s q p n v m u r e) :
    (o = q /\ l = p /\ k = n /\ z = v /\ h = m) /\ xs = u /\ t = r /\ en = e := by
  rcases w with ⟨a, b, c⟩ | ⟨a, g, b, c⟩ | ⟨a, g, b, c⟩ <;> rcases x with ⟨f, i, j⟩ | ⟨f, d, i, j⟩ | ⟨f, d, i, j⟩
  all_goals first
    | exact absurd a f
    | exact absurd f a
    | exact absurd g d
    | exact absurd d g
    | (obtain ⟨y, A, B, C, D, E, G⟩ := c
       obtain ⟨H, I, J, K, L, N, O⟩ := j;rw [y, A, B, C, D, E, G, H, I, J, K, L, N, O, b, i];exact ⟨⟨rfl, rfl, rfl, rfl, rfl⟩, rfl, rfl, rfl⟩)
theorem Ce.short(b:Ce s o l k z h xs t en)(a:DK s):en=2:=by
 rcases b with⟨_,h,_⟩|⟨h,_⟩|⟨h,_⟩
 ·exact h
 ·exact absurd a h
 ·exact absurd a h
theorem Ce.err(b:Ce s o l k z h xs t en):(en=0/\¬DK s/\ES s/\Pu s o l k z h xs t)\/((en=2\/en=3)/\A8 o l k z h xs t):=by
 rcases b with⟨_,h,a⟩|⟨_,_,h,a⟩|⟨c,b,h,a⟩
 ·exact .inr ⟨.inl h,a⟩
 ·exact .inr ⟨.inr h,a⟩
 ·exact .inl ⟨h,c,b,a⟩
theorem eD{p q:List Nat}{i:Nat}(h:i<p.length):(p++q).getD i 0=p.getD i 0:=by
 simp[List.getD_eq_getElem?_getD,List.getElem?_append_left h]
theorem XP{us:List Nat}(n:K2 o l k z h)(J:Ac xs)(I:xs.length=sizeOfK k)(m:11<=s.size)(hp:∃r,tx s++r=BK o l k z h xs ts):
  o=dO s/\l=dL s/\k=dK s/\z=dZ s/\h=dH s:=by
 obtain⟨r,a⟩:=hp;have H:=AT s;obtain⟨⟨⟨q,u⟩,B,C⟩,⟨o1,o2⟩,⟨K,L⟩,D,E⟩:=n;have p:=Qa ⟨⟨q,u⟩,B,C⟩;have e:BK o l k z h xs ts=be 4 (m64 o)++(be 4 (m64 l)++([m64 k%256,m64 z%256,m64 h%256]++(CO xs++ts))):=by
  unfold BK;rw[Fs,Fs,D9,D9,D9,Ja,Ja,Ja];simp
 rw[e]at a;have x:m64 o=o.toNat:=DZ (by omega) (by omega);have w:m64 l=l.toNat:=DZ (by omega) (by omega);have mk:m64 k=k.toNat:=DZ (by omega) (by omega);have y:m64 z=z.toNat:=DZ (by omega) (by omega);have v:m64 h=h.toNat:=DZ (by omega) (by omega);have t4:(tx s).take 4=be 4 (m64 o):=by
  have:=congrArg (List.take 4) a;rw[List.take_append_of_le_length (by omega),List.take_append_of_le_length (by rw[C3];omega),List.take_of_length_le (l:=be 4 (m64 o)) (by rw[C3];omega)]at this;exact this
 have c:(tx s).drop 4++r=be 4 (m64 l)++([m64 k%256,m64 z%256,m64 h%256]++(CO xs++ts)):=by
  have:=congrArg (List.drop 4) a;rw[List.drop_append_of_le_length (by omega),List.drop_append_of_le_length (by rw[C3];omega),(show(be 4 (m64 o)).drop 4=[] from List.drop_eq_nil_of_le (by rw[C3];omega)),List.nil_append]at this;exact this
 have A:((tx s).drop 4).take 4=be 4 (m64 l):=by
  have:=congrArg (List.take 4) c;rw[List.take_append_of_le_length (by rw[List.length_drop];omega),List.take_append_of_le_length (by rw[C3];omega),List.take_of_length_le (l:=be 4 (m64 l)) (by rw[C3];omega)]at this;exact this
 have g:∀i,i<11->(tx s).getD i 0=(be 4 (m64 o)++(be 4 (m64 l)++([m64 k%256,m64 z%256,m64 h%256]++(CO xs++ts)))).getD i 0:=fun i G=>by
  rw[<-a,eD (by omega)]
 have d:dK s=m64 k%256:=by
  unfold dK;rw[g 8 (by omega)];simp[be]
 have f:dZ s=m64 z%256:=by
  unfold dZ;rw[g 9 (by omega)];simp[be]
 have b:dH s=m64 h%256:=by
  unfold dH;rw[g 10 (by omega)];simp[be]
 have go:dO s=m64 o%256^4:=by unfold dO;rw[t4,K5]
 have j:dL s=m64 l%256^4:=by unfold dL;rw[A,K5]
 rw[go,j,d,f,b,x,w,mk,y,v];refine⟨?_,?_,?_,?_,?_⟩<;>omega
theorem Yn:(BK o l k z h xs ts).length=11+8*xs.length+ts.length:=by
 unfold BK;simp only[List.length_append,Fs,D9,C3,Jq]
theorem Vp:(BK o l k z h xs ts).drop 11=CO xs++ts:=by
 unfold BK;rw[List.append_assoc _ (CO xs),List.drop_append_of_le_length (by simp only[List.length_append,Fs,D9,C3];omega),List.drop_eq_nil_of_le (by simp only[List.length_append,Fs,D9,C3];omega),List.nil_append]
theorem enc_size(o l k z h:Int)(xs:List Nat)(t:ByteArray):(st (BK o l k z h xs (tx t))).size=11+8*xs.length+t.size:=by rw[Dx,Yn,AT]
theorem Xt(n:Ac xs)(a:Cg o l k z h xs t.size):
  ¬DK (st (BK o l k z h xs (tx t)))/\ES (st (BK o l k z h xs (tx t)))/\Pu (st (BK o l k z h xs (tx t))) o l k z h xs t:=by
 have u:=enc_size o l k z h xs t;have ht:=DB (Kb o l k z h xs (tx t) (Ci t));have r:=XP (s:=st (BK o l k z h xs (tx t))) (us:=[]) a.1 n a.2.1.2.1 (by omega) ⟨[],by rw[ht,List.append_nil]⟩;generalize v:st (BK o l k z h xs (tx t))=s at*;obtain⟨d,e,b,f,g⟩:=r;have m:xs.length=sizeOfK k:=a.2.1.2.1;have w:(t.size:Int)=z:=a.2.2.2;have c:dN s=11+8*xs.length:=by unfold dN;rw[<-b,m]
 have i:dX s=xs:=by unfold dX;rw[<-b,<-m,ht,Vp,Xa xs _ n]
 have q:t=s.extract (dN s) s.size:=by
  apply I9;have p:11+8*xs.length=8*xs.length+11:=by omega
  rw[Es,ht,c,<-List.drop_drop,Vp,List.drop_append_of_le_length (by rw[Jq];exact Nat.le_refl _),List.drop_eq_nil_of_le (by rw[Jq];exact Nat.le_refl _),List.nil_append,List.take_of_length_le (by rw[AT];omega)]
 refine⟨?_,?_,d,e,b,f,g,i.symm,q⟩
 ·rintro(j|⟨_,j⟩)
  ·omega
  ·rw[c]at j
   omega
 ·unfold ES
  rw[<-d,<-e,<-b,<-f,<-g,i,c,show s.size-(11+8*xs.length)=t.size by omega];exact a
theorem Ym(f:¬DK s)(j:ES s):
  (s.extract (dN s) s.size).size=s.size-dN s/\st (BK (dO s) (dL s) (dK s) (dZ s) (dH s) (dX s) (tx (s.extract (dN s) s.size)))=s:=by
 have e:=j.1.1;have d:dN s+dZ s<=s.size:=by
  have:¬s.size<dN s+dZ s:=fun h=>f (.inr ⟨e,h⟩);omega
 have g:11<=s.size:=by
  have:¬s.size<11:=fun h=>f (.inl h);omega
 have w:=AT s;have b:=Ci s;refine⟨by rw[ByteArray.size_extract];omega,?_⟩;apply I9;rw[DB (Kb _ _ _ _ _ _ _ (Ci _)),Es];have a:∀i,(tx s).getD i 0<256:=fun i=>b.get i;have p:m64 (dO s:Int)=dO s:=DZ rfl (Nat.lt_trans (IT (F4 b 4) (k:=4) (by rw[List.length_take];omega)) (by decide));have n:m64 (dL s:Int)=dL s:=DZ rfl (Nat.lt_trans (IT (F4 (G7 b 4) 4) (k:=4) (by rw[List.length_take];omega)) (by decide));have mk:m64 (dK s:Int)=dK s:=DZ rfl (Nat.lt_trans (a 8) (by decide));have q:m64 (dZ s:Int)=dZ s:=DZ rfl (Nat.lt_trans (a 9) (by decide));have m:m64 (dH s:Int)=dH s:=DZ rfl (Nat.lt_trans (a 10) (by decide))
 have c:∀i,i<s.size->be 1 ((tx s).getD i 0)=((tx s).drop i).take 1:=fun i v=>by
  rw[Ja,Nat.mod_eq_of_lt (a i)];have:i<(tx s).length:=by omega
  rw[List.drop_eq_getElem_cons this,List.take_succ_cons,List.take_zero,List.getD_eq_getElem?_getD,List.getElem?_eq_getElem this];rfl
 unfold BK;rw[Fs,Fs,D9,D9,D9,p,n,mk,q,m];have r:be 4 (dO s)=(tx s).take 4:=L3 (F4 b 4) (by rw[List.length_take];omega);have u:be 4 (dL s)=((tx s).drop 4).take 4:=L3 (F4 (G7 b 4) 4) (by rw[List.length_take,List.length_drop];omega);have wx:CO (dX s)=((tx s).drop 11).take (8*sizeOfK (dK s)):=Wl (G7 b 11) _ (by rw[List.length_drop];unfold dN at d;omega);rw[r,u,show be 1 (dK s)=((tx s).drop 8).take 1 from c 8 (by omega),show be 1 (dZ s)=((tx s).drop 9).take 1 from c 9 (by omega),show be 1 (dH s)=((tx s).drop 10).take 1 from c 10 (by omega),wx];rw[<-List.take_add,<-List.take_add,<-List.take_add,<-List.take_add,<-List.take_add];rw[show 4+4+1+1+1+8*sizeOfK (dK s)=dN s from by unfold dN;omega];rw[List.take_of_length_le (l:=(tx s).drop (dN s)) (by rw[List.length_drop];omega),List.take_append_drop]
theorem ql(xs:List Nat)(n:Nat):Cj (xs.take (8*n)) n=Cj xs n:=by
 unfold Cj;apply List.map_congr_left;intro i a;rw[List.mem_range]at a;rw[List.drop_take,List.take_take,show min 8 (8*n-8*i)=8 by omega]
theorem kB(s:ByteArray):Cj (tx (s.extract 11 (dN s))) (sizeOfK (dK s))=dX s:=by
 rw[Es,show dN s-11=8*sizeOfK (dK s) by unfold dN;omega,ql];rfl
theorem Vz{D:Nat}(f:dN s=D)(m:s.size=D+dZ s)(g:0<sizeOfK (dK s))(j:Dd (s.extract 11 D) (dK s) xs en):
  (Cg (dO s) (dL s) (dK s) (dZ s) (dH s) xs (dZ s)↔ES s)/\(Cg (dO s) (dL s) (dK s) (dZ s) (dH s) xs (dZ s)->xs=dX s):=by
 have e:=kB s;rw[f]at e;have i:s.size-dN s=dZ s:=by omega
 have n:(s.extract 11 D).size=8*sizeOfK (dK s):=by rw[ByteArray.size_extract,<-f];unfold dN at*;omega
 unfold ES;rw[i];rcases j with⟨a,_⟩|⟨_,b,_⟩|⟨_,_,c,_,d⟩|⟨_,_,c,_,d⟩
 ·omega
 ·omega
 ·rw[e]at c
  subst d;exact⟨⟨fun h=>absurd h.2.1.1 (by simp),fun h=>absurd h.2.1 c⟩,fun h=>absurd h.2.1.1 (by simp)⟩
 ·rw[e]at d
  subst d;exact⟨Iff.rfl,fun _=>rfl⟩
end Go.Proofs.YtmmikiikddokgaaGreatDoor
