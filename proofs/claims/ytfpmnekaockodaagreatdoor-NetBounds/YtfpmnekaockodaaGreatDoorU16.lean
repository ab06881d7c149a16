/- Laws for the proof. -/
import Derived.Test.YtfpmnekaockodaaGreatDoorU15
namespace Go.Proofs.YtfpmnekaockodaaGreatDoor
open Go.RowKit
set_option linter.all false
set_option maxRecDepth 4000
set_option maxHeartbeats 8000000
variable {k:Int}
theorem YD(x d:Nat):(x:Int)/2^(8*d)%256=((x/256^d%256:Nat):Int):=by
 rw[show(2:Int)^(8*d)=((256^d:Nat):Int) by rw[Int.pow_mul];simp];simp
theorem Vh(W:Nat)(X:0<W)(hW:W<=8)(a:Option Addr)(n c:Nat)(xs:List Nat)(w:World)(h:RowAt w a n xs)(Z:n<=1048576):
  Calls Tryz.prog 172 #[.int .i64 (W:Int),.slice a n c] w fun e w'=>e=.returned (.string (st (xs.flatMap (be W))))/\Below w.heap.size w w':=by
 obtain rfl:n=xs.length:=h.1.symm;have D:(W:Int)*(xs.length:Int)=((W*xs.length:Nat):Int):=by simp
 have N:W*xs.length<=8388608:=Nat.le_trans (Nat.mul_le_mul hW Z) (by decide);have O:=Ab (Tv w.heap.size w.heap.size (W*xs.length) (w.alloc (.cells #[.pointer none,.slice none 0 0] 298)) (Nat.le_refl _) (heap_alloc_new w _) (by simp) (by omega));have A:Below w.heap.size w (w.alloc (.cells #[.pointer none,.slice none 0 0] 298)):=(Below.refl _ _).alloc (Nat.le_refl _) _;generalize W*xs.length=m at*;go_enter Tryz.func172,Tryz.ntmps172;go_wp2_with (go_at_call 204;refine(Aa O).mono ?_;rintro e w1 ⟨rfl,u,B⟩);have Q:=A.trans B;have q:=Ab u;have r:=Ab Q;clear A B u Q O N D;go_loopw [16] (fun i wr=> ∃k:Nat,k<=xs.length/\i=.int .i64 k/\Hid (GF wr w.heap.size w.heap.size ((xs.take k).flatMap (be W)))/\Hid (Below w.heap.size w wr)) (fun i _=>xs.length-(intOf i).toNat)
 case atStart=>exact⟨0,Nat.zero_le _,rfl,Ab (by simpa using Aa q),r⟩
 case round=>
  obtain⟨k,hk,rfl,f,d⟩:=hrel;clear q r;by_cases p:k<xs.length
  ·obtain⟨b,off,rfl,R⟩:=(h.below (Aa d)).at p
   have I:=R k p;have hx:=h.2.1.get k;have V:=Ab (pC W p);have aa:((xs.take k).flatMap (be W)).length<=8388608:=by
    rw[St,List.length_take];exact Nat.le_trans (Nat.mul_le_mul (show min k xs.length<=1048576 by omega) hW) (by decide)
   generalize xs.getD k 0=x at*;generalize (xs.take k).flatMap (be W)=E at*;clear R;go_wp2;go_loopw [21] (fun i S=> ∃j:Nat,j<=W/\i=.int .i64 j/\Hid (GF S w.heap.size w.heap.size (E++(be W x).take j))/\Hid (Below w.heap.size w S)) (fun i _=>W-(intOf i).toNat)
   case atStart=>exact⟨0,Nat.zero_le _,rfl,Ab (by simpa using Aa f),d⟩
   case round=>
    obtain⟨j,hj,rfl,f,d⟩:=hrel;by_cases K:j<W
    ·have Y:=YD x (W-1-j)
     have T:=Ab (WD W x j K);have hy:x/256^(W-1-j)%256<256:=Nat.mod_lt _ (by decide);generalize x/256^(W-1-j)%256=y at*;have C:(E++(be W x).take j).length<=1073741824:=by
      rw[List.length_append];have:=List.length_take_le j (be W x);omega
     have H:=Ab (jg w.heap.size w.heap.size _ y _ (Aa f) hy C (Aa d).size);clear C;go_wp2_with (go_at_call 205;refine(Aa H).mono ?_;rintro e w' ⟨rfl,v,g⟩);rw[List.append_assoc,<-Aa T]at v;go_roundw
     case rel=>exact⟨j+1,by omega,by go_num,Ab v,Ab ((Aa d).trans g)⟩
     case measure=>simp[intOf];omega
    ·have J:j=W:=by omega
     subst J;rw[List.take_of_length_le (by rw[C4];exact Nat.le_refl _),<-Aa V]at f;go_wp2;go_roundw
     case rel=>exact⟨k+1,by omega,by go_num,f,d⟩
     case measure=>simp[intOf];omega
  ·have L:k=xs.length:=by omega
   subst L;rw[List.take_length]at f;have H:=Ab (VA w.heap.size w.heap.size _ _ (Aa f) (Aa d).size);go_wp2_with (go_at_call 206;refine(Aa H).mono ?_;rintro e w' ⟨rfl,g⟩);go_ret;exact⟨rfl,(Aa d).trans g⟩
def m64(n:Int):Nat:=(n%18446744073709551616).toNat
theorem Z0(n:Int):m64 n<18446744073709551616:=by unfold m64;omega
theorem pk(n:Int):IntKind.u64.wrap n=((m64 n:Nat):Int):=by rw[IntKind.wrap_u64];unfold m64;omega
def BH(n k:Int):List Nat:=if k=1\/k=2\/k=4 then be k.toNat (m64 n)else []
theorem Px{n:Int}(h:EL k):BH n k=be k.toNat (m64 n):=if_pos h
theorem YU{n:Int}(h:¬EL k):BH n k=[]:=if_neg h
theorem GR(n k:Int):bytes (BH n k):=by
 unfold BH;split
 ·exact Pc _ _
 ·exact Jx
theorem bX:st []=⟨#[]⟩:=rfl
theorem Iz(n k:Int)(w:World):
  Calls Tryz.prog 147 #[.int .i64 n,.int .i64 k] w fun e w'=>e=.returned (.string (st (BH n k)))/\Below w.heap.size w w':=by
 by_cases h:EL k
 ·rw[Px h]
  have b:=Ab (fun wx=>ON k h wx);obtain⟨W,rfl,hW⟩:=TU h;have f:=pk n;have a:=Z0 n;rw[Int.toNat_natCast];generalize m64 n=m at*;have c:=Ab (Vh W (by omega) (by omega) _ 1 1 [m] _ (rA w m a) (by omega));clear h hW a;go_enter Tryz.func147,Tryz.ntmps147;go_wp2_with (first|(go_at_call 171;refine(Aa b _).mono ?_;rintro e w' ⟨rfl,rfl⟩)|(go_at_call 172;refine(Aa c).mono ?_;rintro e w' ⟨rfl,d⟩));go_ret;exact⟨rfl,Qe (Below.refl _ _) d⟩
 ·rw[YU h,bX]
  have b:=Ab (fun wx=>Vl k h wx);clear h;go_enter Tryz.func147,Tryz.ntmps147;go_wp2_with (go_at_call 171;refine(Aa b _).mono ?_;rintro e w' ⟨rfl,rfl⟩);go_ret;exact⟨rfl,Below.refl _ _⟩
theorem ia(a:Option Addr)(n c:Nat)(xs:List Nat)(w:World)(h:RowAt w a n xs)(b:n<=1048576):
  Calls Tryz.prog 181 #[.slice a n c] w fun e w'=>e=.returned (.string (st (CQ xs)))/\Below w.heap.size w w':=by
 have d:=Ab (Vh 8 (by omega) (by omega) a n c xs w h b);clear h b;go_enter Tryz.func181,Tryz.ntmps181;go_wp2_with (go_at_call 172;refine(Aa d).mono ?_;rintro e w' ⟨rfl,f⟩);go_ret;exact⟨rfl,f⟩
def Dd(s:ByteArray)(k:Int)(xs:List Nat)(e:Nat):Prop:=
 (sizeOfK k=0/\e=1/\xs=[])\/(0<sizeOfK k/\s.size<8*sizeOfK k/\e=2/\xs=[])\/
 (0<sizeOfK k/\8*sizeOfK k<=s.size/\¬Cq k (Cl (tx s) (sizeOfK k))/\e=3/\xs=[])\/(0<sizeOfK k/\8*sizeOfK k<=s.size/\Cq k (Cl (tx s) (sizeOfK k))/\e=0/\xs=Cl (tx s) (sizeOfK k))
theorem Dd.uniq{s:ByteArray}{xs n:List Nat}{e f:Nat}(h:Dd s k xs e)(p:Dd s k n f):xs=n/\e=f:=by
 rcases h with⟨a,b,c⟩|⟨a,b,c,d⟩|⟨a,b,c,d,z⟩|⟨a,b,c,d,z⟩<;>rcases p with⟨i,j,g⟩|⟨i,j,g,m⟩|⟨i,j,g,m,q⟩|⟨i,j,g,m,q⟩
 all_goals first
  |omega
  |(subst_vars;exact⟨rfl,rfl⟩)
  |exact absurd g c
  |exact absurd c g
theorem qT{s:ByteArray}{xs:List Nat}{e:Nat}(d:¬sizeOfK k=0)(f:¬s.size<8*sizeOfK k):
  Dd s k xs e↔(¬Cq k (Cl (tx s) (sizeOfK k))/\e=3/\xs=[])\/(Cq k (Cl (tx s) (sizeOfK k))/\e=0/\xs=Cl (tx s) (sizeOfK k)):=by
 unfold Dd;constructor
 ·intro h
  rcases h with⟨a,_⟩|⟨a,b,_⟩|⟨a,b,c⟩|⟨a,b,c⟩
  ·omega
  ·omega
  ·exact .inl c
  ·exact .inr c
 ·rintro(h|h)
  ·exact .inr (.inr (.inl ⟨by omega,by omega,h⟩))
  ·exact .inr (.inr (.inr ⟨by omega,by omega,h⟩))
def BS(xs:List Nat)(n j:Nat):List Nat:=Cl xs j++List.replicate (n-j) 0
theorem ep(xs:List Nat)(n j:Nat)(h:j<=n):(BS xs n j).length=n:=by unfold BS;rw[List.length_append,LZ,List.length_replicate];omega
theorem mq(xs:List Nat)(n:Nat):BS xs n 0=List.replicate n 0:=by simp[BS,Cl]
theorem ra(xs:List Nat)(n:Nat):BS xs n n=Cl xs n:=by simp[BS]
theorem rb(xs:List Nat)(n j:Nat)(h:j<n):(BS xs n j).set j (num ((xs.drop (8*j)).take 8))=BS xs n (j+1):=by
 unfold BS;rw[V9,List.set_append,if_neg (by rw[LZ];omega),LZ,Nat.sub_self,show n-j=(n-(j+1))+1 by omega,List.replicate_succ,List.set_cons_zero,List.append_assoc];rfl
theorem Zg(s:ByteArray)(j:Nat):tx (s.extract (8*j) (8*(j+1)))=((tx s).drop (8*j)).take 8:=by
 rw[Ex,show 8*(j+1)-8*j=8 by omega]
theorem Sq(s:ByteArray)(k:Int)(w:World)(ag:s.size<=9223372036854775807):
  Calls Tryz.prog 177 #[.string s,.int .i64 k] w fun e w'=> ∃v xs en,e=.returned (.tuple #[v,.int .i64 ((en:Nat):Int)])/\Own w' w.heap.size v xs/\Dd s k xs en/\Below w.heap.size w w':=by
 have T:=Ab (Hn k);have Y:=D6 k;by_cases D:sizeOfK k=0
 ·have V:(((sizeOfK k:Nat):Int)==0)=true:=by rw[D];rfl
  have g:=Ab (show Dd s k [] 1 from .inl ⟨D,rfl,rfl⟩);clear D Y;go_enter Tryz.func177,Tryz.ntmps177;go_wp2_with (go_at_call 176;refine(Aa T _).mono ?_;rintro e w' ⟨rfl,rfl⟩);go_ret2;exact⟨_,[],1,rfl,Own.nil _ _,Aa g,Below.refl _ _⟩
 ·have V:(((sizeOfK k:Nat):Int)==0)=false:=by simp only[beq_eq_false_iff_ne,ne_eq];omega
  by_cases h1:s.size<8*sizeOfK k
  ·have g:=Ab (show Dd s k [] 2 from .inr (.inl ⟨by omega,h1,rfl,rfl⟩))
   have hd:((s.size:Int)<((sizeOfK k:Nat):Int)*8):=by omega
   clear D;go_enter Tryz.func177,Tryz.ntmps177;go_wp2_with (go_at_call 176;refine(Aa T _).mono ?_;rintro e w' ⟨rfl,rfl⟩);go_ret2;exact⟨_,[],2,rfl,Own.nil _ _,Aa g,Below.refl _ _⟩
  ·have hd:¬((s.size:Int)<((sizeOfK k:Nat):Int)*8):=by omega
   have R:=Ab (fun xs e=>qT (s:=s) (k:=k) (xs:=xs) (e:=e) D h1);obtain⟨i0,I,K,L,N⟩:=info_parts KV;obtain⟨wm,ac,f,a⟩:=run_make_full (P:=Tryz.prog) w w.heap.size 40 265 i0 (.int .u64 0) 1 Tryz.underlying40 I K L .i64 .i64 (sizeOfK k) (by rw[N];omega) (by unfold maxLen;omega) (Nat.le_refl _);have r:=We f;have hb:Below w.heap.size w wm:=(Below.refl _ _).grown a (Nat.le_refl _) (fun k hk=>by cases hk);rw[<-mq (tx s) (sizeOfK k)]at r;have m:=Ab r;have O:=Ab hb;generalize sizeOfK k=n at*;clear f a r hb I K L N;go_enter Tryz.func177,Tryz.ntmps177;go_wp2_with (go_at_call 176;refine(Aa T _).mono ?_;rintro e w' ⟨rfl,hw⟩;obtain rfl:=hw.symm);go_loopw [22] (fun i wr=> ∃j:Nat,j<=n/\i=.int .i64 j/\Hid (Own wr w.heap.size (.slice (some ⟨w.heap.size,0,none⟩) n n) (BS (tx s) n j))/\Hid (Below w.heap.size w wr)) (fun i _=>n-(intOf i).toNat)
   case atStart=>exact⟨0,Nat.zero_le _,rfl,m,O⟩
   case round=>
    obtain⟨j,hj,rfl,m,O⟩:=hrel;by_cases Z:j<n
    ·have y:=ep (tx s) n j (by omega)
     have r:=Aa m;have hx:num (((tx s).drop (8*j)).take 8)<18446744073709551616:=I3 (k:=8) (Gd (Hk (Ck s) _) 8) (List.length_take_le ..);have W:(s.extract (j*8) ((j+1)*8)).size=8:=by rw[ByteArray.size_extract];omega
     have C:=Ab (fun wx=>S7 (s.extract (j*8) ((j+1)*8)) (by omega) wx);rw[show j*8=8*j by omega,show(j+1)*8=8*(j+1) by omega,Zg]at C;rw[show 8*(j+1)=(j+1)*8 by omega]at C;rw[show tx s=tx s from rfl]at C;have J:=rb (tx s) n j Z;generalize aa:num (((tx s).drop (8*j)).take 8)=x at*;rw[show 8*j=j*8 by omega]at C;obtain⟨g',ab,A,ad,af,E,H⟩:=((show Own wr w.heap.size (.slice (some ⟨w.heap.size,0,none⟩) n n) (BS (tx s) n j) from r)).at (by omega);have q:=E j (by omega);have ae:=H j;have u:=(show Own wr w.heap.size (.slice (some ⟨w.heap.size,0,none⟩) (BS (tx s) n j).length n) (BS (tx s) n j) by rw[y];exact r).stored j x hx;rw[y,J]at u;simp only[Value.slice.injEq,Option.some.injEq,Addr.mk.injEq,and_true]at A;obtain⟨rfl, -, -⟩:=A;have HS:=Ab u;have Q:=Ab ((Aa O).setCell (p:=⟨w.heap.size,j,none⟩) (Nat.le_refl _) (.int .u64 (x:Int)));generalize (BS (tx s) n j).getD j 0=z at q;clear E H u r y J W m aa R;go_wp2_with (go_at_call 207;refine(Aa C _).mono ?_;rintro e w' ⟨rfl,hw⟩;obtain rfl:=hw.symm);go_roundw
     case rel=>exact⟨j+1,by omega,by go_num,HS,Q⟩
     case measure=>simp[intOf];omega
    ·have X:j=n:=by omega
     subst X;rw[ra]at m;have y:=LZ (tx s) j;obtain⟨a1,c1,A,hr⟩:=(Aa m).row;rw[y]at A hr;simp only[Value.slice.injEq,true_and]at A;obtain⟨rfl,rfl⟩:=A;have HV:=Ab (L7 _ j j _ k _ hr);clear hr y;go_wp2_with fail;refine(Aa HV).mono ?_;rintro e w' ⟨⟨b,rfl,d⟩,c⟩;have S:=Ab ((Aa m).below c);have B:=Ab (Ad (Aa O) c);cases b with
     |true=>
      have g:=Ab ((Aa R _ _).2 (.inr ⟨d.1 rfl,rfl,rfl⟩));clear d c;go_wp2;go_ret2;exact⟨_,_,0,rfl,Aa S,Aa g,Aa B⟩
     |false=>
      have g:=Ab ((Aa R _ _).2 (.inl ⟨fun h=>by simpa using d.2 h,rfl,rfl⟩));clear d c;go_wp2;go_ret2;exact⟨_,[],3,rfl,Own.nil _ _,Aa g,Aa B⟩
variable {s t:ByteArray}{k z o l h:Int}{xs ts:List Nat}{en:Nat}{P:Prop}
def TB(b:Bool)(P:Prop):Prop:=b=true↔P
theorem E3(P:Prop):∃b,TB b P:=by
 by_cases h:P
 ·exact⟨true,by simp[TB,h]⟩
 ·exact⟨false,by simp[TB,h]⟩
theorem TB.no{b:Bool}(h:TB b P)(hp:¬P):b=false:=by
 cases b
 ·rfl
 ·exact absurd (h.1 rfl) hp
theorem TB.yes{b:Bool}(h:TB b P)(hp:P):b=true:=h.2 hp
def ER(en:Nat)(P:Prop):Prop:=(P/\en=0)\/(¬P/\en=1)
theorem Ns(P:Prop):∃en,ER en P:=by
 by_cases h:P
 ·exact⟨0,.inl ⟨h,rfl⟩⟩
 ·exact⟨1,.inr ⟨h,rfl⟩⟩
theorem ER.yes(h:ER en P)(hp:P):en=0:=by
 rcases h with⟨_,h⟩|⟨h,_⟩
 ·exact h
 ·exact absurd hp h
theorem ER.no(h:ER en P)(hp:¬P):en=1:=by
 rcases h with⟨h,_⟩|⟨_,h⟩
 ·exact absurd h hp
 ·exact h
def Je(k z:Int):Prop:=(1<=k/\k<=128)/\1<=z/\z<=64
def Lc(o l k z h:Int):Prop:=Je k z/\(0<=o/\o<=4294967295)/\(0<=l/\l<=k*z)/\0<=h/\h<=15
def JZ(k z:Int)(xs:List Nat)(n:Nat):Prop:=Cq k xs/\0<cnt xs/\(n:Int)=z
def Ci(o l k z h:Int)(xs:List Nat)(n:Nat):Prop:=Lc o l k z h/\JZ k z xs n
theorem Qo(h:Je k z):0<=k*z/\k*z<=8192:=by
 obtain⟨⟨d,a⟩,e,f⟩:=h;have b:0<=k*z:=Int.mul_nonneg (by omega) (by omega);have c:k*z<=128*z:=Int.mul_le_mul_of_nonneg_right a (by omega);omega
def BQ(o l k z h:Int)(xs ts:List Nat):List Nat:=BH o 4++BH l 4++BH k 1++BH z 1++BH h 1++CQ xs++ts
theorem Kz(o l k z h:Int)(xs ts:List Nat)(ht:bytes ts):bytes (BQ o l k z h xs ts):=
 Gh (Gh (Gh (Gh (Gh (Gh (GR _ _) (GR _ _)) (GR _ _)) (GR _ _)) (GR _ _)) (Ts _)) ht
theorem FT(n:Int):BH n 4=be 4 (m64 n):=Px (.inr (.inr rfl))
theorem Ed(n:Int):BH n 1=be 1 (m64 n):=Px (.inl rfl)
theorem Jk(n:Nat):be 1 n=[n%256]:=by simp[be]
theorem Ea{n:Int}{m:Nat}(h:n=(m:Int))(a:m<18446744073709551616):m64 n=m:=by
 subst h;unfold m64;omega
theorem Q4:∀xs:List Nat,bytes xs->be xs.length (num xs)=xs
 |[],_=>rfl
 |x::r,h=>by
  have b:x<256:=h x (List.mem_cons_self ..);have a:bytes r:=fun y f=>h y (List.mem_cons_of_mem _ f);have c:=QO a;rw[List.length_cons,be,Pu];have d:(x*256^r.length+num r)/256^r.length=x:=by
   rw[Nat.mul_comm,Nat.mul_add_div (Nat.pow_pos (by decide)),Nat.div_eq_of_lt c,Nat.add_zero]
  have e:be r.length (x*256^r.length+num r)=be r.length (num r):=Q3 _ _ _ (by rw[Nat.mul_add_mod_self_right]);rw[d,e,Q4 r a,Nat.mod_eq_of_lt b]
theorem Mn{W:Nat}(h:bytes xs)(a:xs.length=W):be W (num xs)=xs:=by rw[<-a];exact Q4 xs h
theorem WJ{xs:List Nat}(h:bytes xs):∀n,8*n<=xs.length->CQ (Cl xs n)=xs.take (8*n)
 |0,_=>by simp[Cl,CQ]
 |n+1,b=>by
  have a:=WJ h n (by omega);have e:CQ (Cl xs n++[num ((xs.drop (8*n)).take 8)])=CQ (Cl xs n)++be 8 (num ((xs.drop (8*n)).take 8)):=by simp[CQ]
  rw[V9,e,a,Mn (Gd (Hk h _) _) (by rw[List.length_take,List.length_drop];omega),show 8*(n+1)=8*n+8 by omega,List.take_add]
def dO(s:ByteArray):Nat:=num ((tx s).take 4)
def dL(s:ByteArray):Nat:=num (((tx s).drop 4).take 4)
def dK(s:ByteArray):Nat:=(tx s).getD 8 0
def dZ(s:ByteArray):Nat:=(tx s).getD 9 0
def dH(s:ByteArray):Nat:=(tx s).getD 10 0
def dN(s:ByteArray):Nat:=11+8*sizeOfK (dK s)
def dX(s:ByteArray):List Nat:=Cl ((tx s).drop 11) (sizeOfK (dK s))
def DO(s:ByteArray):Prop:=s.size<11\/(Je (dK s) (dZ s)/\s.size<dN s+dZ s)
def E6(s:ByteArray):Prop:=Ci (dO s) (dL s) (dK s) (dZ s) (dH s) (dX s) (s.size-dN s)
def A9(o l k z h:Int)(xs:List Nat)(t:ByteArray):Prop:=o=0/\l=0/\k=0/\z=0/\h=0/\xs=[]/\t=⟨#[]⟩
def PE(s:ByteArray)(o l k z h:Int)(xs:List Nat)(t:ByteArray):Prop:=o=dO s/\l=dL s/\k=dK s/\z=dZ s/\h=dH s/\xs=dX s/\t=s.extract (dN s) s.size
def Cg(s:ByteArray)(o l k z h:Int)(xs:List Nat)(t:ByteArray)(en:Nat):Prop:=
 (DO s/\en=2/\A9 o l k z h xs t)\/(¬DO s/\¬E6 s/\en=3/\A9 o l k z h xs t)\/(¬DO s/\E6 s/\en=0/\PE s o l k z h xs t)
theorem Cg.uniq {s : ByteArray} {o l k z h q p n v m : Int} {xs u : List Nat} {t r : ByteArray} {en e : Nat} (w : Cg s o l k z h xs t en) (x : Cg s q p n v m u r e) :
    (o = q /\ l = p /\ k = n /\ z = v /\ h = m) /\ xs = u /\ t = r /\ en = e := by
  rcases w with ⟨a, b, c⟩ | ⟨a, g, b, c⟩ | ⟨a, g, b, c⟩ <;> rcases x with ⟨f, i, j⟩ | ⟨f, d, i, j⟩ | ⟨f, d, i, j⟩
  all_goals first
    | exact absurd a f
    | exact absurd f a
    | exact absurd g d
    | exact absurd d g
    | (obtain ⟨y, A, B, C, D, E, H⟩ := c
       obtain ⟨I, J, K, L, N, O, Q⟩ := j;rw [y, A, B, C, D, E, H, I, J, K, L, N, O, Q, b, i];exact ⟨⟨rfl, rfl, rfl, rfl, rfl⟩, rfl, rfl, rfl⟩)
theorem Cg.short(b:Cg s o l k z h xs t en)(a:DO s):en=2:=by
 rcases b with⟨_,h,_⟩|⟨h,_⟩|⟨h,_⟩
 ·exact h
 ·exact absurd a h
 ·exact absurd a h
theorem Cg.err(b:Cg s o l k z h xs t en):(en=0/\¬DO s/\E6 s/\PE s o l k z h xs t)\/((en=2\/en=3)/\A9 o l k z h xs t):=by
 rcases b with⟨_,h,a⟩|⟨_,_,h,a⟩|⟨c,b,h,a⟩
 ·exact .inr ⟨.inl h,a⟩
 ·exact .inr ⟨.inr h,a⟩
 ·exact .inl ⟨h,c,b,a⟩
theorem fG{p q:List Nat}{i:Nat}(h:i<p.length):(p++q).getD i 0=p.getD i 0:=by
 simp[List.getD_eq_getElem?_getD,List.getElem?_append_left h]
theorem Yw{us:List Nat}(n:Lc o l k z h)(K:Ac xs)(J:xs.length=sizeOfK k)(m:11<=s.size)(hp:∃r,tx s++r=BQ o l k z h xs ts):
  o=dO s/\l=dL s/\k=dK s/\z=dZ s/\h=dH s:=by
 obtain⟨r,a⟩:=hp;have I:=AU s;obtain⟨⟨⟨q,u⟩,B,C⟩,⟨o1,o2⟩,⟨L,N⟩,D,E⟩:=n;have p:=Qo ⟨⟨q,u⟩,B,C⟩;have e:BQ o l k z h xs ts=be 4 (m64 o)++(be 4 (m64 l)++([m64 k%256,m64 z%256,m64 h%256]++(CQ xs++ts))):=by
  unfold BQ;rw[FT,FT,Ed,Ed,Ed,Jk,Jk,Jk];simp
 rw[e]at a;have x:m64 o=o.toNat:=Ea (by omega) (by omega);have w:m64 l=l.toNat:=Ea (by omega) (by omega);have mk:m64 k=k.toNat:=Ea (by omega) (by omega);have y:m64 z=z.toNat:=Ea (by omega) (by omega);have v:m64 h=h.toNat:=Ea (by omega) (by omega);have t4:(tx s).take 4=be 4 (m64 o):=by
  have:=congrArg (List.take 4) a;rw[List.take_append_of_le_length (by omega),List.take_append_of_le_length (by rw[C4];omega),List.take_of_length_le (l:=be 4 (m64 o)) (by rw[C4];omega)]at this;exact this
 have c:(tx s).drop 4++r=be 4 (m64 l)++([m64 k%256,m64 z%256,m64 h%256]++(CQ xs++ts)):=by
  have:=congrArg (List.drop 4) a;rw[List.drop_append_of_le_length (by omega),List.drop_append_of_le_length (by rw[C4];omega),(show(be 4 (m64 o)).drop 4=[] from List.drop_eq_nil_of_le (by rw[C4];omega)),List.nil_append]at this;exact this
 have A:((tx s).drop 4).take 4=be 4 (m64 l):=by
  have:=congrArg (List.take 4) c;rw[List.take_append_of_le_length (by rw[List.length_drop];omega),List.take_append_of_le_length (by rw[C4];omega),List.take_of_length_le (l:=be 4 (m64 l)) (by rw[C4];omega)]at this;exact this
 have g:∀i,i<11->(tx s).getD i 0=(be 4 (m64 o)++(be 4 (m64 l)++([m64 k%256,m64 z%256,m64 h%256]++(CQ xs++ts)))).getD i 0:=fun i H=>by
  rw[<-a,fG (by omega)]
 have d:dK s=m64 k%256:=by
  unfold dK;rw[g 8 (by omega)];simp[be]
 have f:dZ s=m64 z%256:=by
  unfold dZ;rw[g 9 (by omega)];simp[be]
 have b:dH s=m64 h%256:=by
  unfold dH;rw[g 10 (by omega)];simp[be]
 have go:dO s=m64 o%256^4:=by unfold dO;rw[t4,Lh]
 have j:dL s=m64 l%256^4:=by unfold dL;rw[A,Lh]
 rw[go,j,d,f,b,x,w,mk,y,v];refine⟨?_,?_,?_,?_,?_⟩<;>omega
theorem Ye:(BQ o l k z h xs ts).length=11+8*xs.length+ts.length:=by
 unfold BQ;simp only[List.length_append,FT,Ed,C4,Jy]
theorem VK:(BQ o l k z h xs ts).drop 11=CQ xs++ts:=by
 unfold BQ;rw[List.append_assoc _ (CQ xs),List.drop_append_of_le_length (by simp only[List.length_append,FT,Ed,C4];omega),List.drop_eq_nil_of_le (by simp only[List.length_append,FT,Ed,C4];omega),List.nil_append]
theorem enc_size(o l k z h:Int)(xs:List Nat)(t:ByteArray):(st (BQ o l k z h xs (tx t))).size=11+8*xs.length+t.size:=by rw[Dw,Ye,AU]
theorem YP(n:Ac xs)(a:Ci o l k z h xs t.size):
  ¬DO (st (BQ o l k z h xs (tx t)))/\E6 (st (BQ o l k z h xs (tx t)))/\PE (st (BQ o l k z h xs (tx t))) o l k z h xs t:=by
 have u:=enc_size o l k z h xs t;have ht:=DE (Kz o l k z h xs (tx t) (Ck t));have r:=Yw (s:=st (BQ o l k z h xs (tx t))) (us:=[]) a.1 n a.2.1.2.1 (by omega) ⟨[],by rw[ht,List.append_nil]⟩;generalize v:st (BQ o l k z h xs (tx t))=s at*;obtain⟨d,e,b,f,g⟩:=r;have m:xs.length=sizeOfK k:=a.2.1.2.1;have w:(t.size:Int)=z:=a.2.2.2;have c:dN s=11+8*xs.length:=by unfold dN;rw[<-b,m]
 have i:dX s=xs:=by unfold dX;rw[<-b,<-m,ht,VK,Xq xs _ n]
 have q:t=s.extract (dN s) s.size:=by
  apply Jj;have p:11+8*xs.length=8*xs.length+11:=by omega
  rw[Ex,ht,c,<-List.drop_drop,VK,List.drop_append_of_le_length (by rw[Jy];exact Nat.le_refl _),List.drop_eq_nil_of_le (by rw[Jy];exact Nat.le_refl _),List.nil_append,List.take_of_length_le (by rw[AU];omega)]
 refine⟨?_,?_,d,e,b,f,g,i.symm,q⟩
 ·rintro(j|⟨_,j⟩)
  ·omega
  ·rw[c]at j
   omega
 ·unfold E6
  rw[<-d,<-e,<-b,<-f,<-g,i,c,show s.size-(11+8*xs.length)=t.size by omega];exact a
theorem Yd(f:¬DO s)(j:E6 s):
  (s.extract (dN s) s.size).size=s.size-dN s/\st (BQ (dO s) (dL s) (dK s) (dZ s) (dH s) (dX s) (tx (s.extract (dN s) s.size)))=s:=by
 have e:=j.1.1;have d:dN s+dZ s<=s.size:=by
  have:¬s.size<dN s+dZ s:=fun h=>f (.inr ⟨e,h⟩);omega
 have g:11<=s.size:=by
  have:¬s.size<11:=fun h=>f (.inl h);omega
 have w:=AU s;have b:=Ck s;refine⟨by rw[ByteArray.size_extract];omega,?_⟩;apply Jj;rw[DE (Kz _ _ _ _ _ _ _ (Ck _)),Ex];have a:∀i,(tx s).getD i 0<256:=fun i=>b.get i;have p:m64 (dO s:Int)=dO s:=Ea rfl (Nat.lt_trans (I3 (Gd b 4) (k:=4) (by rw[List.length_take];omega)) (by decide));have n:m64 (dL s:Int)=dL s:=Ea rfl (Nat.lt_trans (I3 (Gd (Hk b 4) 4) (k:=4) (by rw[List.length_take];omega)) (by decide));have mk:m64 (dK s:Int)=dK s:=Ea rfl (Nat.lt_trans (a 8) (by decide));have q:m64 (dZ s:Int)=dZ s:=Ea rfl (Nat.lt_trans (a 9) (by decide));have m:m64 (dH s:Int)=dH s:=Ea rfl (Nat.lt_trans (a 10) (by decide))
 have c:∀i,i<s.size->be 1 ((tx s).getD i 0)=((tx s).drop i).take 1:=fun i v=>by
  rw[Jk,Nat.mod_eq_of_lt (a i)];have:i<(tx s).length:=by omega
  rw[List.drop_eq_getElem_cons this,List.take_succ_cons,List.take_zero,List.getD_eq_getElem?_getD,List.getElem?_eq_getElem this];rfl
 unfold BQ;rw[FT,FT,Ed,Ed,Ed,p,n,mk,q,m];have r:be 4 (dO s)=(tx s).take 4:=Mn (Gd b 4) (by rw[List.length_take];omega);have u:be 4 (dL s)=((tx s).drop 4).take 4:=Mn (Gd (Hk b 4) 4) (by rw[List.length_take,List.length_drop];omega);have wx:CQ (dX s)=((tx s).drop 11).take (8*sizeOfK (dK s)):=WJ (Hk b 11) _ (by rw[List.length_drop];unfold dN at d;omega);rw[r,u,show be 1 (dK s)=((tx s).drop 8).take 1 from c 8 (by omega),show be 1 (dZ s)=((tx s).drop 9).take 1 from c 9 (by omega),show be 1 (dH s)=((tx s).drop 10).take 1 from c 10 (by omega),wx];rw[<-List.take_add,<-List.take_add,<-List.take_add,<-List.take_add,<-List.take_add];rw[show 4+4+1+1+1+8*sizeOfK (dK s)=dN s from by unfold dN;omega];rw[List.take_of_length_le (l:=(tx s).drop (dN s)) (by rw[List.length_drop];omega),List.take_append_drop]
theorem XQ(xs:List Nat)(n:Nat):Cl (xs.take (8*n)) n=Cl xs n:=by
 unfold Cl;apply List.map_congr_left;intro i a;rw[List.mem_range]at a;rw[List.drop_take,List.take_take,show min 8 (8*n-8*i)=8 by omega]
theorem lB(s:ByteArray):Cl (tx (s.extract 11 (dN s))) (sizeOfK (dK s))=dX s:=by
 rw[Ex,show dN s-11=8*sizeOfK (dK s) by unfold dN;omega,XQ];rfl
theorem Vd{D:Nat}(f:dN s=D)(m:s.size=D+dZ s)(g:0<sizeOfK (dK s))(j:Dd (s.extract 11 D) (dK s) xs en):
  (Ci (dO s) (dL s) (dK s) (dZ s) (dH s) xs (dZ s)↔E6 s)/\(Ci (dO s) (dL s) (dK s) (dZ s) (dH s) xs (dZ s)->xs=dX s):=by
 have e:=lB s;rw[f]at e;have i:s.size-dN s=dZ s:=by omega
 have n:(s.extract 11 D).size=8*sizeOfK (dK s):=by rw[ByteArray.size_extract,<-f];unfold dN at*;omega
 unfold E6;rw[i];rcases j with⟨a,_⟩|⟨_,b,_⟩|⟨_,_,c,_,d⟩|⟨_,_,c,_,d⟩
 ·omega
 ·omega
 ·rw[e]at c
  subst d;exact⟨⟨fun h=>absurd h.2.1.1 (by simp),fun h=>absurd h.2.1 c⟩,fun h=>absurd h.2.1.1 (by simp)⟩
 ·rw[e]at d
  subst d;exact⟨Iff.rfl,fun _=>rfl⟩
end Go.Proofs.YtfpmnekaockodaaGreatDoor
