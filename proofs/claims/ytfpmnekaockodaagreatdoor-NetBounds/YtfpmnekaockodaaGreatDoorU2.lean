/- Laws for the proof. -/
import Derived.Laws.Bits128
import Derived.Test.YtfpmnekaockodaaGreatDoorU1
import Derived.RegionTactic
import Derived.Lib.SliceRun
namespace Go.Proofs.YtfpmnekaockodaaGreatDoor
open Go.RowKit
set_option linter.all false
set_option maxRecDepth 4000
set_option maxHeartbeats 8000000
def o1(x:Int):Int:=IntKind.u64.wrap (bits .and .u64 (x/2) 6148914691236517205+bits .and .u64 x 6148914691236517205)
def o2(x:Int):Int:=IntKind.u64.wrap (bits .and .u64 (x/4) 3689348814741910323+bits .and .u64 x 3689348814741910323)
def o3(x:Int):Int:=bits .and .u64 (IntKind.u64.wrap (x/16+x)) 1085102592571150095
def o4(x:Int):Int:=IntKind.u64.wrap (x+x/256)
def o5(x:Int):Int:=IntKind.u64.wrap (x+x/65536)
def o6(x:Int):Int:=IntKind.u64.wrap (x+x/4294967296)
def o7(x:Int):Int:=bits .and .i64 (wrap64 x) 127
theorem Kw(a b m n:Nat)(c:a<256)(d:m<256):(a+256*b)&&&(m+256*n)=(a&&&m)+256*(b&&&n):=by
 have e:a&&&m<2^8:=Nat.lt_of_le_of_lt Nat.and_le_left c;apply Nat.eq_of_testBit_eq;intro i;rw[Nat.testBit_and,Nat.add_comm a,Nat.add_comm m,Nat.add_comm (a&&&m),show(256:Nat)=2^8 from rfl];rw[Nat.testBit_two_pow_mul_add b c,Nat.testBit_two_pow_mul_add n d,Nat.testBit_two_pow_mul_add (b&&&n) e];split
 ·rw[Nat.testBit_and]
 ·rw[Nat.testBit_and]
def DY(m:Nat):Nat->Nat
 |0=>0
 |k+1=>m+256*DY m k
def y8(x:Nat):Nat:=(x/2&&&85)+(x&&&85)
def z8(x:Nat):Nat:=(x/4&&&51)+(x&&&51)
def yk(k x:Nat):Nat:=(x/2&&&DY 85 k)+(x&&&DY 85 k)
def zk(k x:Nat):Nat:=(x/4&&&DY 51 k)+(x&&&DY 51 k)
def gk(k x:Nat):Nat:=(x/16+x)&&&DY 15 k
theorem cK:∀(a:Fin 256) (c:Fin 2),(a.val/2+128*c.val)&&&85=a.val/2&&&85:=by decide+kernel
theorem cL:∀(a:Fin 256) (c:Fin 4),(a.val/4+64*c.val)&&&51=a.val/4&&&51:=by decide+kernel
theorem Rt:∀a:Fin 256,y8 a.val<256:=by decide+kernel
theorem Ru:∀a:Fin 256,z8 a.val<256/\z8 a.val%16<=6:=by decide+kernel
theorem ZV:∀(a:Fin 256) (c:Fin 7),z8 (y8 a.val)/16+16*c.val+z8 (y8 a.val)<256/\(z8 (y8 a.val)/16+16*c.val+z8 (y8 a.val))&&&15=C0 8 a.val:=by decide+kernel
theorem XS(k lo a:Nat)(h:lo<256):yk (k+1) (lo+256*a)=y8 lo+256*yk k a:=by
 unfold yk y8;have e:(lo+256*a)/2=(lo/2+128*(a%2))+256*(a/2):=by omega
 have d:=cK ⟨lo,h⟩ ⟨a%2,by omega⟩;simp only at d;rw[e,show DY 85 (k+1)=85+256*DY 85 k from rfl,Kw _ _ _ _ (by omega) (by omega),Kw _ _ _ _ h (by omega),d];omega
theorem Wc(k lo a:Nat)(h:lo<256):zk (k+1) (lo+256*a)=z8 lo+256*zk k a:=by
 unfold zk z8;have e:(lo+256*a)/4=(lo/4+64*(a%4))+256*(a/4):=by omega
 have d:=cL ⟨lo,h⟩ ⟨a%4,by omega⟩;simp only at d;rw[e,show DY 51 (k+1)=51+256*DY 51 k from rfl,Kw _ _ _ _ (by omega) (by omega),Kw _ _ _ _ h (by omega),d];omega
theorem bC:∀k x,zk k x%16<=6
 |0,x=>by simp[zk,DY]
 |k+1,x=>by
  have e:x=x%256+256*(x/256):=by omega
  rw[e,Wc k _ _ (by omega)];have:=(Ru ⟨x%256,by omega⟩).2;simp only at this;omega
theorem qS(k lo a:Nat)(h:lo<256):gk (k+1) (zk (k+1) (yk (k+1) (lo+256*a)))=C0 8 lo+256*gk k (zk k (yk k a)):=by
 rw[XS k lo a h,Wc k _ _ (Rt ⟨lo,h⟩)];have c:=bC k (yk k a);generalize zk k (yk k a)=t at*;have d:=ZV ⟨lo,h⟩ ⟨t%16,by omega⟩;simp only at d;have b:=(Ru ⟨y8 lo,Rt ⟨lo,h⟩⟩).1;simp only at b;generalize z8 (y8 lo)=s at*;unfold gk;have e:(s+256*t)/16+(s+256*t)=(s/16+16*(t%16)+s)+256*(t/16+t):=by omega
 rw[e,show DY 15 (k+1)=15+256*DY 15 k from rfl,Kw _ _ _ _ d.1 (by omega),d.2]
theorem Pw:∀f x,C0 f x=C0 f (x%2^f)
 |0,x=>rfl
 |f+1,x=>by
  simp only[C0];rw[Pw f (x/2),Pw f (x%2^(f+1)/2)];have a:x%2^(f+1)%2=x%2:=Nat.mod_mod_of_dvd x ⟨2^f,by rw[Nat.pow_succ,Nat.mul_comm]⟩;have b:x%2^(f+1)/2=x/2%2^f:=by rw[Nat.pow_succ,Nat.mul_comm,Nat.mod_mul_right_div_self]
  rw[a,b,Nat.mod_mod]
theorem Wj:∀a b x,C0 (a+b) x=C0 a x+C0 b (x/2^a)
 |0,b,x=>by simp[C0]
 |a+1,b,x=>by
  rw[show a+1+b=(a+b)+1 by omega];simp only[C0];rw[Wj a b (x/2),Nat.div_div_eq_div_mul,Nat.pow_succ,Nat.mul_comm 2];omega
theorem QD:∀k x,∃p:List Nat,p.length=k/\(∀q∈p,q<=8)/\C0 (8*k) x=p.sum/\gk k (zk k (yk k x))=p.foldr (fun q s=>q+256*s) 0
 |0,x=>⟨[],rfl,by simp,rfl,by simp[gk,DY]⟩
 |k+1,x=>by
  obtain⟨p,b,c,d,f⟩:=QD k (x/256);refine⟨C0 8 (x%256)::p,by simp[b],?_,?_,?_⟩
  ·intro q a
   rcases List.mem_cons.1 a with rfl|a
   ·exact PN 8 _
   ·exact c q a
  ·rw[show 8*(k+1)=8+8*k by omega,Wj,List.sum_cons,<-d,Pw 8 x]
  ·have e:x=x%256+256*(x/256):=by omega
   conv=>lhs;rw[e]
   rw[qS k _ _ (by omega),f];rfl
theorem bT:DY 85 8=6148914691236517205:=by decide+kernel
theorem bS:DY 51 8=3689348814741910323:=by decide+kernel
theorem bR:DY 15 8=1085102592571150095:=by decide+kernel
theorem bM(x:Nat)(h:x<18446744073709551616):o1 (x:Int)=(yk 8 x:Nat)/\yk 8 x<=12297829382473034410:=by
 unfold o1 yk;rw[bT];have e:((x:Int)/2)=((x/2:Nat):Int):=by omega
 have d:=Nat.and_le_right (n:=x/2) (m:=6148914691236517205);have f:=Nat.and_le_right (n:=x) (m:=6148914691236517205);have a:=u64_and_nat (x/2) 6148914691236517205 (by omega) (by omega);have b:=u64_and_nat x 6148914691236517205 (by omega) (by omega);have c:((6148914691236517205:Nat):Int)=6148914691236517205:=rfl;rw[c]at a b;rw[e,a,b,IntKind.wrap_u64];omega
theorem bN(x:Nat)(h:x<18446744073709551616):o2 (x:Int)=(zk 8 x:Nat)/\zk 8 x<=7378697629483820646:=by
 unfold o2 zk;rw[bS];have e:((x:Int)/4)=((x/4:Nat):Int):=by omega
 have d:=Nat.and_le_right (n:=x/4) (m:=3689348814741910323);have f:=Nat.and_le_right (n:=x) (m:=3689348814741910323);have a:=u64_and_nat (x/4) 3689348814741910323 (by omega) (by omega);have b:=u64_and_nat x 3689348814741910323 (by omega) (by omega);have c:((3689348814741910323:Nat):Int)=3689348814741910323:=rfl;rw[c]at a b;rw[e,a,b,IntKind.wrap_u64];omega
theorem bO(x:Nat)(h:x<=7378697629483820646):o3 (x:Int)=(gk 8 x:Nat):=by
 unfold o3 gk;rw[bR];have e:IntKind.u64.wrap ((x:Int)/16+(x:Int))=((x/16+x:Nat):Int):=by rw[IntKind.wrap_u64];omega
 have b:=u64_and_nat (x/16+x) 1085102592571150095 (by omega) (by omega);have c:((1085102592571150095:Nat):Int)=1085102592571150095:=rfl;rw[c]at b;rw[e,b]
theorem bP(x:Nat)(h:x<9223372036854775808):o7 (x:Int)=((x%128:Nat):Int):=by
 unfold o7;have e:wrap64 (x:Int)=(x:Int):=by unfold wrap64;omega
 rw[e,i64_and127];omega
theorem py(P T:Nat)(h:P<=64):(P+256*T)%128=P:=by omega
theorem aX(A a b:Nat)(c:A=b+256*a)(q:b<=8)(d:A<=600000000000000000):o4 (A:Int)=((A+a:Nat):Int):=by
 unfold o4;rw[IntKind.wrap_u64];omega
theorem aY(A a b c u u1:Nat)(f:A=u+65536*b)(d:a=u1+65536*c)(q:u<=2056)(j:u1<=2056)(h:A<=600000000000000000)(e:a<=600000000000000000):o5 ((A+a:Nat):Int)=((A+a+b+c:Nat):Int):=by
 unfold o5;rw[IntKind.wrap_u64];omega
theorem aZ(A a b c d e f h v j l v3:Nat)(u:A=v+4294967296*d)(m:a=j+4294967296*e)(n:b=l+4294967296*f)(o:c=v3+4294967296*h)
  (q:v+j+l+v3<4294967296) (x:A<=600000000000000000) (p:a<=600000000000000000) (r:b<=600000000000000000) (s:c<=600000000000000000):
  o6 ((A+a+b+c:Nat):Int)=((A+a+b+c+(d+e+f+h):Nat):Int):=by
 unfold o6;rw[IntKind.wrap_u64];omega
theorem mm(r m f a h n s u:Nat)(L:r<=8)(W:m<=8)(X:f<=8)(Y:a<=8)(Z:h<=8)(q5:n<=8)(q6:s<=8)(q7:u<=8):
  o7 (o6 (o5 (o4 ((r+256*(m+256*(f+256*(a+256*(h+256*(n+256*(s+256*(u+256*0))))))):Nat):Int))))=((r+(m+(f+(a+(h+(n+(s+(u+0))))))):Nat):Int):=by
 obtain⟨p,K⟩:∃p,p=u+256*0:=⟨_,rfl⟩;obtain⟨o,J⟩:∃o,o=s+256*p:=⟨_,rfl⟩;obtain⟨l,I⟩:∃l,l=n+256*o:=⟨_,rfl⟩;obtain⟨j,H⟩:∃j,j=h+256*l:=⟨_,rfl⟩;obtain⟨d,E⟩:∃d,d=a+256*j:=⟨_,rfl⟩;obtain⟨c,D⟩:∃c,c=f+256*d:=⟨_,rfl⟩;obtain⟨b,C⟩:∃b,b=m+256*c:=⟨_,rfl⟩;obtain⟨A,v⟩:∃A,A=r+256*b:=⟨_,rfl⟩;rw[<-K,<-J,<-I,<-H,<-E,<-D,<-C,<-v];have V:p<=8:=by omega
 have T:o<=2056:=by omega
 have S:l<=526344:=by omega
 have R:j<=134744072:=by omega
 have Q:d<=34494482440:=by omega
 have P:c<=8830587504648:=by omega
 have O:b<=2260630401189896:=by omega
 have N:A<=578721382704613384:=by omega
 rw[aX A b r v L (by omega)];have u0:A=(r+256*m)+65536*c:=by omega
 have u1:b=(m+256*f)+65536*d:=by omega
 have u2:c=(f+256*a)+65536*j:=by omega
 have u3:d=(a+256*h)+65536*l:=by omega
 have u4:j=(h+256*n)+65536*o:=by omega
 have u5:l=(n+256*s)+65536*p:=by omega
 rw[aY A b c d _ _ u0 u1 (by omega) (by omega) (by omega) (by omega)];have v0:A=((r+256*m)+65536*(f+256*a))+4294967296*j:=by rw[u0,u2];omega
 have y:b=((m+256*f)+65536*(a+256*h))+4294967296*l:=by rw[u1,u3];omega
 have z:c=((f+256*a)+65536*(h+256*n))+4294967296*o:=by rw[u2,u4];omega
 have v3:d=((a+256*h)+65536*(n+256*s))+4294967296*p:=by rw[u3,u5];omega
 rw[aZ A b c d j l o p _ _ _ _ v0 y z v3 (by omega) (by omega) (by omega) (by omega) (by omega)];clear u0 u1 u2 u3 u4 u5 v0 y z v3;rw[bP _ (by omega)];have e:A+b+c+d+(j+l+o+p)=(r+(m+(f+(a+(h+(n+(s+(u+0))))))))+256*(b+c+d+j+l+o+p):=by omega
 rw[e];have x:r+(m+(f+(a+(h+(n+(s+(u+0)))))))<=64:=by omega
 rw[py _ _ x];clear e x;omega
theorem ZB(x:Nat)(h:x<18446744073709551616):o7 (o6 (o5 (o4 (o3 (o2 (o1 (x:Int)))))))=(pop x:Nat):=by
 obtain⟨b,v⟩:=bM x h;obtain⟨c,a⟩:=bN (yk 8 x) (by omega);have d:=bO (zk 8 (yk 8 x)) a;rw[b,c,d];obtain⟨p,y,hp,f,e⟩:=QD 8 x;rw[e];unfold pop;rw[show(64:Nat)=8*8 from rfl,f]
 match p,y with
 |[j,l,m,n,o,r,s,u],_=>
  have z:=hp j (by simp);have A:=hp l (by simp);have C:=hp m (by simp);have D:=hp n (by simp);have E:=hp o (by simp);have H:=hp r (by simp);have I:=hp s (by simp);have J:=hp u (by simp);clear hp f e b c d v a h;simp only[List.foldr_cons,List.foldr_nil,List.sum_cons,List.sum_nil];exact mm j l m n o r s u z A C D E H I J
variable {on:Bool}{k i:Int}{xs:List Nat}{B g cap q:Nat}{w wr:World}
theorem pe(x:Nat)(a:x<18446744073709551616)(w:World):
  Calls Tryz.prog 210 #[.int .u64 (x:Int)] w fun e w'=>e=.returned (.int .i64 ((pop x:Nat):Int))/\w'=w:=by
 have H:=Ab (ZB x a);clear a;go_enter Tryz.func210,Tryz.ntmps210;go_wp2;go_ret;exact⟨CC (Aa H),rfl⟩
def Tab(w:World):Prop:=∀i,i<64->w.cell? ⟨2,i,none⟩=some (.int .u8 ((Lib.deBruijn64tab.getD i 0:Nat):Int))
theorem Tab.below{w':World}(h:Tab w)(b:Below w.heap.size w w'):Tab w':=fun i a=>(b.cell (World.block_lt_of_cell? w _ (h i a))).trans (h i a)
theorem cF(x:Nat)(a:x≠0)(h:x<18446744073709551616):
  ∃q:Nat,q<64/\Lib.deBruijn64tab.getD q 0=Lib.ctz 64 x/\IntKind.u64.wrap (bits .and .u64 (x:Int) (IntKind.u64.wrap (-(x:Int)))*285870213051353865)/288230376151711744=(q:Int):=by
 obtain⟨b,c⟩:=Lib.lowest_bit 64 x a (by omega);obtain⟨d,f⟩:=Lib.deBruijn64_at (Lib.ctz 64 x) c;refine⟨_,d,f,?_⟩;have e:IntKind.u64.wrap (-(x:Int))=((2^64-x:Nat):Int):=by rw[IntKind.wrap_u64];omega
 rw[e,u64_and_nat x (2^64-x) h (by omega),b,IntKind.wrap_u64];rw[show((2^Lib.ctz 64 x:Nat):Int)*285870213051353865=((2^Lib.ctz 64 x*285870213051353865:Nat):Int) from by rw[Int.natCast_mul];rfl];generalize 2^Lib.ctz 64 x*285870213051353865=z;omega
theorem cE(x:Nat)(b:x≠0)(j:x<18446744073709551616)(w:World)(ht:Tab w):
  Calls Tryz.prog 262 #[.int .u64 (x:Int)] w fun e w'=>e=.returned (.int .i64 ((Lib.ctz 64 x:Nat):Int))/\w'=w:=by
 have f:((x:Int)==0)=false:=by simp;omega
 obtain⟨q,h,c,l⟩:=cF x b j;have a:=ht q h;rw[c]at a;have d:Lib.ctz 64 x<64:=(Lib.lowest_bit 64 x b (by omega)).2;generalize Lib.ctz 64 x=t at*;clear ht c b;go_enter Tryz.func262,Tryz.ntmps262;go_wp2;go_ret;exact⟨rfl,rfl⟩
theorem GP(a:Option Addr)(n c:Nat)(xs:List Nat)(w:World)(h:RowAt w a n xs)(v:n<=1048576):
  Calls Tryz.prog 180 #[.slice a n c] w fun e w'=>e=.returned (.int .i64 ((cnt xs:Nat):Int))/\w'=w:=by
 go_enter Tryz.func180,Tryz.ntmps180;go_wp2;go_loop [3,8] (fun t i=> ∃k:Nat,k<=n/\i=.int .i64 k/\t=.int .i64 ((cnt (xs.take k):Nat):Int)) (fun _ i=>n-(intOf i).toNat)
 case atStart=>exact⟨0,Nat.zero_le _,rfl,rfl⟩
 case round=>
  obtain⟨k,u,rfl,rfl⟩:=hrel;by_cases d:k<n
  ·obtain⟨b,off,rfl,j⟩:=h.at d
   have f:=j k d;have p:=h.2.1.get k;have m:=oO xs k (by rw[h.1];exact d);have r:=Li (xs.take k);have l:(xs.take k).length<=k:=List.length_take_le _ _;have hp:=QV (xs.getD k 0);have o:=Ab m;generalize xs.getD k 0=x at*;generalize cnt (xs.take k)=s at*;clear m j h;go_wp2_with (go_at_call 210;refine(pe x p _).mono ?_;rintro e w' ⟨rfl,rfl⟩);go_round
   case rel=>exact⟨k+1,by omega,by go_num,by rw[Aa o];go_num⟩
   case measure=>simp[intOf];omega
  ·go_wp2
   go_ret;exact⟨CC (by rw[List.take_of_length_le (by rw[h.1];omega)]),rfl⟩
theorem gJ(xs:List Nat)(k:Nat)(h:∀j,j<k->xs.getD j 0=0)(a:xs.getD k 0=0):∀j,j<k+1->xs.getD j 0=0:=by
 intro j b;by_cases e:j=k
 ·rw[e];exact a
 ·exact h j (by omega)
theorem gI(xs:List Nat)(h:∀j,j<xs.length->xs.getD j 0=0):firstI xs= -1:=
 Sb xs ((Kp xs).2 fun i=>by
  by_cases a:i<xs.length
  ·exact h i a
  ·exact Ge (by omega))
theorem JE(a:Option Addr)(n c:Nat)(xs:List Nat)(w:World)(ht:Tab w)(h:RowAt w a n xs)(A:n<=1048576):
  Calls Tryz.prog 222 #[.slice a n c] w fun e w'=>e=.returned (.int .i64 (firstI xs))/\w'=w:=by
 go_enter Tryz.func222,Tryz.ntmps222;go_wp2;go_loop [7] (fun i=> ∃k:Nat,k<=n/\i=.int .i64 k/\Hid (∀j,j<k->xs.getD j 0=0)) (fun i=>n-(intOf i).toNat)
 case atStart=>exact⟨0,Nat.zero_le _,rfl,Ab (fun j v=>by omega)⟩
 case round=>
  obtain⟨k,z,rfl,o⟩:=hrel;by_cases f:k<n
  ·obtain⟨b,off,rfl,p⟩:=h.at f
   have d:=p k f;have r:=h.2.1.get k;by_cases l:xs.getD k 0=0
   ·rw[l]at d
    have s:=Ab (gJ xs k (Aa o) l);clear p h l r ht;go_wp2;go_round
    case rel=>exact⟨k+1,by omega,by go_num,s⟩
    case measure=>simp[intOf];omega
   ·have m:=Ab (Ms xs k (by rw[h.1];exact f) (Aa o) l)
    have u:=(Lib.lowest_bit 64 (xs.getD k 0) l (by omega)).2;have y:(((xs.getD k 0:Nat):Int) !=0)=true:=by rw[bne_iff_ne];omega
    generalize xs.getD k 0=x at*;clear p h;go_wp2_with (go_at_call 262;refine(cE x l r _ ht).mono ?_;rintro e w' ⟨rfl,rfl⟩);go_ret;exact⟨CC (Aa m).symm,rfl⟩
  ·have m:=Ab (gI xs (fun j v=>Aa o j (by have:=h.1;omega)))
   go_wp2;go_ret;exact⟨CC (Aa m).symm,rfl⟩
theorem O3{a:List Nat}{k:Nat}(j:Ac xs)(l:Ac a)(h:k<xs.length)(e:B<=g)
  (d:Own wr B (.slice (some ⟨g,0,none⟩) xs.length cap) (Dg xs a k)) (f:Below B w wr):
  Own (wr.setCell ⟨g,k,none⟩ (.int .u64 ((xs.getD k 0^^^a.getD k 0:Nat):Int))) B (.slice (some ⟨g,0,none⟩) xs.length cap) (Dg xs a (k+1))/\
  Below B w (wr.setCell ⟨g,k,none⟩ (.int .u64 ((xs.getD k 0^^^a.getD k 0:Nat):Int))):=by
 have c:=Cd xs a k;rw[<-c]at d;have b:=d.stored k (xs.getD k 0^^^a.getD k 0) (Nat.xor_lt_two_pow (n:=64) (by have:=j.get k;omega) (by have:=l.get k;omega));rw[SW xs a k h,c]at b;exact⟨b,f.setCell (by exact e) _⟩
theorem Jf(a:Option Addr)(n c:Nat)(xs:List Nat)(H:Option Addr)(m O:Nat)(b:List Nat)(w:World)(h:RowAt w a n xs)(j:RowAt w H m b)(V:n<=1048576)(T:m<=1048576):
  Calls Tryz.prog 274 #[.slice a n c,.slice H m O] w fun e w'=> ∃v,e=.returned v/\Own w' w.heap.size v (xorL xs b)/\Below w.heap.size w w':=by
 obtain rfl:n=xs.length:=h.1.symm;obtain rfl:m=b.length:=j.1.symm;by_cases S:xs.length<b.length
 ·have J:((xs.length:Int)<(b.length:Int)):=by omega
  go_enter Tryz.func274,Tryz.ntmps274;go_wp2_with (go_at_call 253;refine(He H b.length O b _ j (by omega)).mono ?_;rintro e w1 ⟨v,rfl,D,C⟩);go_loopw [19] (fun i wr=> ∃k:Nat,k<=xs.length/\i=.int .i64 k/\Hid (Own wr w.heap.size v (Dg b xs k))/\Hid (Below w.heap.size w wr)) (fun i _=>xs.length-(intOf i).toNat)
  case atStart=>exact⟨0,Nat.zero_le _,rfl,Ab (by rw[KG];exact D),Ab C⟩
  case round=>
   obtain⟨k,Q,rfl,f,u⟩:=hrel;clear D C;by_cases r:k<xs.length
   ·obtain⟨P,E,rfl,l⟩:=(h.below (Aa u)).at r
    have L:k<b.length:=by omega
    obtain⟨g,cap,rfl,z,K,o,p⟩:=(Aa f).at (by rw[Cd];omega);have s:=l k r;have d:=o k (by rw[Cd];omega);have I:=p k;rw[Hd b xs k k (by omega),if_neg (by omega)]at d;have N:=u64_xor_nat (b.getD k 0) (xs.getD k 0) (j.2.1.get k) (h.2.1.get k);rw[Cd]at f;have R:=Ab (O3 j.2.1 h.2.1 (by omega) z (Aa f) (Aa u));rw[Cd];generalize b.getD k 0=x at*;generalize xs.getD k 0=y at*;clear l o p h j f;go_wp2;go_roundw
    case rel=>exact⟨k+1,by omega,by go_num,Ab (Aa R).1,Ab (Aa R).2⟩
    case measure=>simp[intOf];omega
   ·have A:k=xs.length:=by omega
    subst A;rw[KQ b xs (by omega)]at f;clear h j;go_wp2;go_ret;exact⟨_,rfl,by rw[KP];exact Aa f,Aa u⟩
 ·have J:¬((xs.length:Int)<(b.length:Int)):=by omega
  go_enter Tryz.func274,Tryz.ntmps274;go_wp2_with (go_at_call 253;refine(He a xs.length c xs _ h (by omega)).mono ?_;rintro e w1 ⟨v,rfl,D,C⟩);go_loopw [19] (fun i wr=> ∃k:Nat,k<=b.length/\i=.int .i64 k/\Hid (Own wr w.heap.size v (Dg xs b k))/\Hid (Below w.heap.size w wr)) (fun i _=>b.length-(intOf i).toNat)
  case atStart=>exact⟨0,Nat.zero_le _,rfl,Ab (by rw[KG];exact D),Ab C⟩
  case round=>
   obtain⟨k,Q,rfl,f,u⟩:=hrel;clear D C;by_cases r:k<b.length
   ·obtain⟨P,E,rfl,l⟩:=(j.below (Aa u)).at r
    have L:k<xs.length:=by omega
    obtain⟨g,cap,rfl,z,K,o,p⟩:=(Aa f).at (by rw[Cd];omega);have s:=l k r;have d:=o k (by rw[Cd];omega);have I:=p k;rw[Hd xs b k k (by omega),if_neg (by omega)]at d;have N:=u64_xor_nat (xs.getD k 0) (b.getD k 0) (h.2.1.get k) (j.2.1.get k);rw[Cd]at f;have R:=Ab (O3 h.2.1 j.2.1 (by omega) z (Aa f) (Aa u));rw[Cd];generalize xs.getD k 0=x at*;generalize b.getD k 0=y at*;clear l o p h j f;go_wp2;go_roundw
    case rel=>exact⟨k+1,by omega,by go_num,Ab (Aa R).1,Ab (Aa R).2⟩
    case measure=>simp[intOf];omega
   ·have A:k=b.length:=by omega
    subst A;rw[KQ xs b (by omega)]at f;clear h j;go_wp2;go_ret;exact⟨_,rfl,Aa f,Aa u⟩
theorem L0{b:List Nat}(c:Ac xs)(d:Ac b):Ac (xorL xs b):=by
 intro z a;unfold xorL at a;obtain⟨i,_,rfl⟩:=List.mem_map.1 a;have e:=c.get i;have f:=d.get i;exact Nat.xor_lt_two_pow (n:=64) (by omega) (by omega)
theorem rE(a:Option Addr)(n c:Nat)(xs:List Nat)(d:Option Addr)(m j:Nat)(b:List Nat)(w:World)(ht:Tab w)(h:RowAt w a n xs)(l:RowAt w d m b)(u:n<=1048576)(s:m<=1048576):
  Calls Tryz.prog 250 #[.slice a n c,.slice d m j] w fun e w'=>e=.returned (.bool (decide (firstI (xorL xs b)<0)))/\Below w.heap.size w w':=by
 go_enter Tryz.func250,Tryz.ntmps250;go_wp2_with fail;refine(Jf a n c xs d m j b _ h l u s).mono ?_;rintro e w1 ⟨v,rfl,x,o⟩;obtain⟨p,c1,rfl,y⟩:=x.row;have r:(xorL xs b).length<=1048576:=by rw[BY,h.1,l.1];omega
 have f:=ht.below o;go_wp2_with fail;refine(JE p _ c1 _ _ f y r).mono ?_;rintro e w2 ⟨rfl,rfl⟩;go_wp2;go_ret;exact⟨rfl,o⟩
def sizeOfK(k:Int):Nat:=if k<1\/128<k then 0 else((k+63)/64).toNat
theorem Hn(k:Int)(w:World):
  Calls Tryz.prog 176 #[.int .i64 k] w fun e w'=>e=.returned (.int .i64 ((sizeOfK k:Nat):Int))/\w'=w:=by
 by_cases b:k<1
 ·have e:sizeOfK k=0:=by unfold sizeOfK;rw[if_pos (.inl b)]
  rw[e];go_enter Tryz.func176,Tryz.ntmps176;go_wp2;go_ret;exact⟨rfl,rfl⟩
 ·by_cases c:128<k
  ·have e:sizeOfK k=0:=by unfold sizeOfK;rw[if_pos (.inr c)]
   rw[e];go_enter Tryz.func176,Tryz.ntmps176;go_wp2;go_ret;exact⟨rfl,rfl⟩
  ·have e:((sizeOfK k:Nat):Int)=(k+64-1)/64:=by unfold sizeOfK;rw[if_neg (by omega)];omega
   have a:=Ab e;clear e;go_enter Tryz.func176,Tryz.ntmps176;go_wp2;go_ret;exact⟨CC (Aa a).symm,rfl⟩
def Fa(xs:List Nat)(i:Int)(on:Bool):List Nat:=if i<0 then xs else BE xs i.toNat on
theorem QU(x:Nat)(i:Int)(a:x<18446744073709551616):bits .or .u64 (x:Int) ((2^(i%64).toNat:Nat):Int)=((setW x (i%64).toNat true:Nat):Int):=by
 have h:(i%64).toNat<64:=by omega
 have b:2^(i%64).toNat<2^64:=Nat.pow_lt_pow_right (by decide) h;rw[u64_or_nat x _ a (by omega),Xl]
theorem fW(x:Nat)(i:Int)(a:x<18446744073709551616):bits .andNot .u64 (x:Int) ((2^(i%64).toNat:Nat):Int)=((setW x (i%64).toNat false:Nat):Int):=by
 have h:(i%64).toNat<64:=by omega
 have b:2^(i%64).toNat<2^64:=Nat.pow_lt_pow_right (by decide) h;rw[u64_andNot_nat x _ a (by omega),eS x _ a h]
theorem My(i:Int)(q:Nat)(a:0<=i)(c:i<=9223372036854775807)(b:i/64=(q:Int)):IntKind.i64.wrap (i.tdiv 64)=(q:Int):=by
 rw[Int.tdiv_eq_ediv_of_nonneg a,b];simp[IntKind.wrap,IntKind.bits,IntKind.signed];omega
theorem UH(f:0<=i)(h:i/64=(q:Int))(e:Ac xs)(b:B<=g)(d:Own wr B (.slice (some ⟨g,0,none⟩) xs.length cap) xs)(c:Below B w wr):
  Own (wr.setCell ⟨g,q,none⟩ (.int .u64 ((setW (xs.getD q 0) (i%64).toNat on:Nat):Int))) B (.slice (some ⟨g,0,none⟩) xs.length cap) (Fa xs i on)/\
  Below B w (wr.setCell ⟨g,q,none⟩ (.int .u64 ((setW (xs.getD q 0) (i%64).toNat on:Nat):Int))):=by
 have a:=d.stored q (setW (xs.getD q 0) (i%64).toNat on) (MZ _ _ _ (e.get _) (by omega));refine⟨?_,c.setCell (by exact b) _⟩;unfold Fa BE;rw[if_neg (by omega),show i.toNat/64=q by omega,show i.toNat%64=(i%64).toNat by omega];exact a
theorem Own.drew{v:Value}(h:Own w B v xs):Own w.drew B v xs:=⟨h.1,h.2.drew⟩
theorem Ti(a:0<=i)(h:i/64=(q:Int))(j:Ac xs)(d:B<=g)(f:Own wr B (.slice (some ⟨g,0,none⟩) xs.length cap) xs)(e:Below B w wr):
  Own (wr.setCell ⟨g,q,none⟩ (.int .u64 ((setW (xs.getD q 0) (i%64).toNat on:Nat):Int))).drew B (.slice (some ⟨g,0,none⟩) xs.length cap) (Fa xs i on)/\
  Below B w (wr.setCell ⟨g,q,none⟩ (.int .u64 ((setW (xs.getD q 0) (i%64).toNat on:Nat):Int))).drew:=by
 obtain⟨b,c⟩:=UH (on:=on) a h j d f e;exact⟨b.drew,c.drew⟩
theorem rK(h:¬(0<=i/\i/64<(xs.length:Int))):Fa xs i on=xs:=by
 unfold Fa;split
 ·rfl
 ·exact rI xs _ on (by omega)
theorem Xa(a:Option Addr)(n c:Nat)(xs:List Nat)(i:Int)(on:Bool)(w:World)(h:RowAt w a n xs)(W:n<=1048576)(A:i<=9223372036854775807):
  Calls Tryz.prog 234 #[.slice a n c,.int .i64 i,.bool on] w fun e w'=> ∃v,e=.returned v/\Own w' w.heap.size v (Fa xs i on)/\Below w.heap.size w w':=by
 obtain rfl:n=xs.length:=h.1.symm;by_cases d:0<=i/\i/64<(xs.length:Int)
 ·obtain⟨b,D⟩:=d
  obtain⟨q,E⟩:=Int.eq_ofNat_of_zero_le (show 0<=i/64 by omega);have T:=My i q b A E;have S:q<xs.length:=by omega
  have K:(q:Int)<(xs.length:Int):=by omega
  have H:=Ab (fun wx=>UZ i b A wx);go_enter Tryz.func234,Tryz.ntmps234;go_wp2_with fail;refine(He a xs.length c xs _ h (by omega)).mono ?_;rintro e w1 ⟨v,rfl,f,p⟩;have m:=Ab f;obtain⟨g,cap,rfl,o,Q,r,s⟩:=f.at (by omega);have C:=r q (by omega);have P:=s q;have L:=h.2.1.get q;have l:=LY (some ⟨g,0,none⟩) xs.length cap i b A w1;rw[show decide (i/64<(xs.length:Int))=true by simp;omega]at l;have u:=Ab l;clear l r s f D;have I:=Ab (Ti (on:=true) b E h.2.1 o (Aa m) p);have J:=Ab (Ti (on:=false) b E h.2.1 o (Aa m) p);have R:=QU (xs.getD q 0) i L;have O:=fW (xs.getD q 0) i L;generalize (2^(i%64).toNat:Nat)=mk at*;generalize xs.getD q 0=x at*;generalize setW x (i%64).toNat true=y at*;generalize setW x (i%64).toNat false=z at*;clear m h p;cases on with
  |true=>
   go_wp2_with (go_at_call 268;refine(Aa u).mono ?_;rintro e w' ⟨rfl,rfl⟩);go_region_with (go_at_call 269;refine(Aa H _).mono ?_;rintro e w' ⟨rfl,rfl⟩)
   all_goals go_wp2
   all_goals go_ret
   all_goals exact⟨_,rfl,(Aa I).1,(Aa I).2⟩
  |false=>
   go_wp2_with (go_at_call 268;refine(Aa u).mono ?_;rintro e w' ⟨rfl,rfl⟩);go_region_with (go_at_call 269;refine(Aa H _).mono ?_;rintro e w' ⟨rfl,rfl⟩)
   all_goals go_wp2
   all_goals go_ret
   all_goals exact⟨_,rfl,(Aa J).1,(Aa J).2⟩
 ·have l:∀(j:Option Addr) (c1:Nat) (wx:World),Calls Tryz.prog 268 #[.slice j xs.length c1,.int .i64 i] wx fun e w'=>e=.returned (.bool false)/\w'=wx:=by
   intro j c1 wx;by_cases b:0<=i
   ·have:=LY j xs.length c1 i b A wx
    rwa[show decide (i/64<(xs.length:Int))=false by simp;omega]at this
   ·exact SU j xs.length c1 i (by omega) wx
  have u:=Ab l;have N:=Ab (rK (on:=on) d);clear l d;go_enter Tryz.func234,Tryz.ntmps234;go_wp2_with fail;refine(He a xs.length c xs _ h (by omega)).mono ?_;rintro e w1 ⟨v,rfl,f,p⟩;have m:=Ab f;obtain⟨j,c1,rfl,V⟩:=f.row;clear f V;go_wp2_with (go_at_call 268;refine(Aa u j c1 _).mono ?_;rintro e w' ⟨rfl,rfl⟩);go_ret;exact⟨_,rfl,by rw[Aa N];exact Aa m,p⟩
def Da(xs:List Nat):Nat->Nat->List Nat
 |_,0=>xs
 |o,m+1=>Da (xs.set o 0) (o+1) m
theorem Io:∀(m o:Nat) (xs:List Nat),(Da xs o m).length=xs.length
 |0,_,_=>rfl
 |m+1,o,xs=>by rw[Da,Io m];simp
theorem K3:∀(m o:Nat) (xs:List Nat) (j:Nat),(Da xs o m).getD j 0=if o<=j/\j<o+m then 0 else xs.getD j 0
 |0,o,xs,j=>by simp[Da];omega
 |m+1,o,xs,j=>by
  rw[Da,K3 m (o+1),DZ];by_cases a:o+1<=j/\j<o+1+m
  ·rw[if_pos a,if_pos (by omega)]
  ·rw[if_neg a]
   by_cases b:j=o
   ·subst b
    rw[if_pos (c:=j<=j/\j<j+(m+1)) (by omega)];split
    ·rfl
    ·exact Ge (by omega)
   ·rw[if_neg (by omega),if_neg (by omega)]
theorem Own.cleared{B g cap:Nat}:∀(m o:Nat) (xs:List Nat) (w:World),Own w B (.slice (some ⟨g,0,none⟩) xs.length cap) xs->
  Own (w.setCells g o (List.replicate m (.int .u64 0))) B (.slice (some ⟨g,0,none⟩) xs.length cap) (Da xs o m)
 |0,_,_,_,h=>h
 |m+1,o,xs,w,h=>by
  have b:=h.stored o 0 (by decide);have a:=Own.cleared m (o+1) (xs.set o 0) (w.setCell ⟨g,o,none⟩ (.int .u64 0)) (by simpa using b);rw[List.replicate_succ];have c:(xs.set o 0).length=xs.length:=by simp
  rw[c]at a;exact a
theorem Below.cells{B g:Nat}{w0:World}(a:B<=g):∀(vs:List Value) (o:Nat) (w:World),Below B w0 w->Below B w0 (w.setCells g o vs)
 |[],_,_,h=>h
 |v::r,o,w,h=>Below.cells a r (o+1) (w.setCell ⟨g,o,none⟩ v) (h.setCell (by exact a) v)
def fmask(r:Nat):Nat:=18446744073709551615*2^r%18446744073709551616
theorem qL(r:Nat):fmask r<18446744073709551616:=Nat.mod_lt _ (by decide)
theorem XT(w:World):(zeroValue 265).run Tryz.prog w=.ok (.int .u64 0) w:=by kernel_rfl
theorem Uf{w1:World}(l:Own w1 B (.slice (some ⟨g,0,none⟩) xs.length cap) xs)(m:q<=xs.length):
  ∀c,(Builtin.clear_ #[40] c #[.slice (some ⟨g,0,none⟩) q cap]).run Tryz.prog w1=.ok (.tuple #[]) (w1.setCells g 0 (List.replicate q (.int .u64 0))):=by
 intro c;by_cases e:q=0
 ·subst e
  simp[Builtin.clear_,run_underlying Tryz.underlying40,World.setCells]
 ·obtain⟨g',d,f,_,_,a,b⟩:=l.at (by omega)
  simp only[Value.slice.injEq,Option.some.injEq,Addr.mk.injEq,and_true,true_and]at f;obtain⟨rfl,rfl⟩:=f;exact Lib.run_clear_slice w1 40 265 c (.int .u64 0) Tryz.underlying40 XT rfl rfl g 0 q cap (by omega) (fun j h=>by rw[Nat.zero_add,a j (by omega)];rfl) (fun j h=>by rw[Nat.zero_add];exact b j)
theorem qP(x r:Nat)(a:x<18446744073709551616):bits .and .u64 (x:Int) (IntKind.u64.wrap (18446744073709551615*2^r))=((x&&&fmask r:Nat):Int):=by
 have e:IntKind.u64.wrap (18446744073709551615*2^r)=((fmask r:Nat):Int):=by
  rw[IntKind.wrap_u64];unfold fmask;simp
 rw[e,u64_and_nat x _ a (qL r)]
theorem Yn(a:Option Addr)(n c:Nat)(xs:List Nat)(k:Int)(q:Nat)(w:World)(h:RowAt w a n xs)(hn:n<=1048576)(R:0<=k)(W:k<=9223372036854775807)(X:k/64=(q:Int))(Y:q<n):
  Calls Tryz.prog 209 #[.slice a n c,.int .i64 k] w fun e w'=> ∃v,e=.returned v/\Own w' w.heap.size v ((Da xs 0 q).set q (xs.getD q 0&&&fmask (k%64).toNat))/\Below w.heap.size w w':=by
 obtain rfl:n=xs.length:=h.1.symm;have Z:=My k q R W X;have O:(q:Int)<(xs.length:Int):=by omega
 go_enter Tryz.func209,Tryz.ntmps209;go_wp2_with fail;refine(He a xs.length c xs _ h (by omega)).mono ?_;rintro e w1 ⟨v,rfl,A,K⟩;obtain⟨g,cap,rfl,u,V,E,H⟩:=A.at (by omega);have L:=A.cap;have S:=Uf A (by omega:q<=xs.length);have d:=Own.cleared q 0 xs w1 A;have z:=Below.cells (w0:=w) u (List.replicate q (.int .u64 0)) 0 w1 K;generalize w1.setCells g 0 (List.replicate q (.int .u64 0))=w2 at*;have s:=Io q 0 xs;rw[<-s]at d;obtain⟨g',J,P,_,N,j,l⟩:=d.at (by omega);simp only[Value.slice.injEq,Option.some.injEq,Addr.mk.injEq,and_true,true_and]at P;obtain⟨rfl,rfl⟩:=P;have b:=j q (by omega);have T:=l q;rw[K3,if_neg (by omega)]at b;have o:=qP (xs.getD q 0) (k%64).toNat (h.2.1.get q);have m:xs.getD q 0&&&fmask (k%64).toNat<18446744073709551616:=Nat.lt_of_le_of_lt Nat.and_le_left (h.2.1.get q);have f:=d.stored q (xs.getD q 0&&&fmask (k%64).toNat) m;have r:=z.setCell (p:=⟨g,q,none⟩) (by exact u) (.int .u64 ((xs.getD q 0&&&fmask (k%64).toNat:Nat):Int));rw[s]at f;obtain⟨y,I⟩:∃y,y=xs.getD q 0&&&fmask (k%64).toNat:=⟨_,rfl⟩;rw[<-I]at o f r;have D:=Ab f;have C:=Ab r;have Q:=Ab I;clear E H j l A d K z h s f r m I;generalize xs.getD q 0=x at o b;go_wp2;go_ret;exact⟨_,rfl,by rw[<-Aa Q];exact Aa D,Aa C⟩
theorem qO(a:Option Addr)(n c:Nat)(xs:List Nat)(k:Int)(w:World)(h:RowAt w a n xs)(E:n<=1048576)(A:0<n)(u:0<=k)(z:k<=9223372036854775807)(C:k/64=(n:Int)):
  Calls Tryz.prog 209 #[.slice a n c,.int .i64 k] w fun e w'=> ∃v,e=.returned v/\Own w' w.heap.size v (Da xs 0 n)/\Below w.heap.size w w':=by
 obtain rfl:n=xs.length:=h.1.symm;have D:=My k xs.length u z C;go_enter Tryz.func209,Tryz.ntmps209;go_wp2_with fail;refine(He a xs.length c xs _ h (by omega)).mono ?_;rintro e w1 ⟨v,rfl,d,r⟩;obtain⟨g,cap,rfl,m,y,o,p⟩:=d.at (by omega);have s:=d.cap;have x:=Uf d (Nat.le_refl _);have f:=Own.cleared xs.length 0 xs w1 d;have b:=Below.cells (w0:=w) m (List.replicate xs.length (.int .u64 0)) 0 w1 r;generalize w1.setCells g 0 (List.replicate xs.length (.int .u64 0))=w2 at*;have l:=Ab f;have j:=Ab b;clear o p d f r b h;go_wp2;go_ret;exact⟨_,rfl,Aa l,Aa j⟩
def Cq(k:Int)(xs:List Nat):Prop:=0<xs.length/\xs.length=sizeOfK k/\∀i,k.toNat<=i->Ai xs i=false
theorem N4(h:0<sizeOfK k):1<=k/\k<=128/\sizeOfK k=((k+63)/64).toNat:=by
 unfold sizeOfK at*;split at h
 ·omega
 ·rename_i a
  rw[if_neg a];omega
theorem TN(r t:Nat)(ht:t<64):(fmask r).testBit t=decide (r<=t):=by
 unfold fmask;rw[show(18446744073709551616:Nat)=2^64 from rfl,Nat.testBit_mod_two_pow,Nat.testBit_mul_two_pow,show(18446744073709551615:Nat)=2^64-1 from rfl,Nat.testBit_two_pow_sub_one];simp[ht];omega
theorem jc(x r:Nat)(c:x<18446744073709551616):(x&&&fmask r=0)↔∀t,t<64->r<=t->x.testBit t=false:=by
 constructor
 ·intro h t ht a
  have b:(x&&&fmask r).testBit t=false:=by rw[h];simp
  rw[Nat.testBit_and,TN r t ht]at b;simpa [a]using b
 ·intro h
  apply Nat.eq_of_testBit_eq;intro t;rw[Nat.testBit_and,Nat.zero_testBit];by_cases ht:t<64
  ·rw[TN r t ht]
   by_cases a:r<=t
   ·simp[h t ht a]
   ·simp[a]
  ·have:x.testBit t=false:=Nat.testBit_lt_two_pow (Nat.lt_of_lt_of_le (show x<2^64 by omega) (Nat.pow_le_pow_right (by decide) (by omega)))
   simp[this]
theorem nN(b:0<xs.length)(c:xs.length=sizeOfK k)(d:k/64=(xs.length:Int)):cnt (Da xs 0 xs.length)=0/\Cq k xs:=by
 constructor
 ·apply NN
  intro i a;rw[Io]at a;rw[K3,if_pos (by omega)]
 ·exact⟨b,c,fun i a=>E1 xs i (by omega)⟩
theorem XL(f:Ac xs)(m:0<xs.length)(r:xs.length=sizeOfK k)(u:0<=k)(v:k/64=(q:Int))(e:q<xs.length):
  cnt ((Da xs 0 q).set q (xs.getD q 0&&&fmask (k%64).toNat))=0↔Cq k xs:=by
 have hp:=N4 (k:=k) (by omega);have p:q+1=xs.length:=by omega
 have s:Ac ((Da xs 0 q).set q (xs.getD q 0&&&fmask (k%64).toNat)):=by
  have j:Ac (Da xs 0 q):=by
   intro z j;obtain⟨i,b,rfl⟩:=List.getElem_of_mem j;have a:=K3 q 0 xs i;have n:(Da xs 0 q).getD i 0=(Da xs 0 q)[i]:=by simp[List.getD_eq_getElem?_getD,List.getElem?_eq_getElem b]
   have o:=f.get i;rw[n]at a;show(Da xs 0 q)[i]<18446744073709551616;rw[a];split
   ·decide
   ·exact o
  exact j.set _ _ (Nat.lt_of_le_of_lt Nat.and_le_left (f.get q))
 have l:cnt ((Da xs 0 q).set q (xs.getD q 0&&&fmask (k%64).toNat))=0↔xs.getD q 0&&&fmask (k%64).toNat=0:=by
  constructor
  ·intro h
   have a:=(Kp _).1 (SP _ s h) q;rw[DZ,if_pos ⟨rfl,by rw[Io];exact e⟩]at a;exact a
  ·intro h
   apply NN;intro i b;rw[List.length_set,Io]at b;rw[DZ];split
   ·exact h
   ·rw[K3,if_pos]
    rename_i d;rw[Io]at d;omega
 rw[l,jc _ _ (f.get q)];constructor
 ·intro h
  refine⟨m,r,fun i b=>?_⟩;by_cases c:64*xs.length<=i
  ·exact E1 xs i c
  ·unfold Ai
   rw[show i/64=q by omega];exact h (i%64) (by omega) (by omega)
 ·intro h t ht x
  have:=h.2.2 (64*q+t) (by omega);rwa[MQ xs q t ht]at this
def DK(e:Ending)(P:Prop):Prop:=∃b,e=.returned (.bool b)/\(b=true↔P)
theorem DK.no{P:Prop}(h:¬P):DK (.returned (.bool false)) P:=⟨false,rfl,by simp[h]⟩
theorem DK.yes{P:Prop}(h:P):DK (.returned (.bool true)) P:=⟨true,rfl,by simp[h]⟩
theorem L7(a:Option Addr)(n c:Nat)(xs:List Nat)(k:Int)(w:World)(h:RowAt w a n xs):
  Calls Tryz.prog 179 #[.int .i64 k,.slice a n c] w fun e w'=>DK e (Cq k xs)/\Below w.heap.size w w':=by
 obtain rfl:n=xs.length:=h.1.symm;have x:=Ab (Hn k);by_cases z:xs.length=0
 ·have C:((xs.length:Int)==0)=true:=by rw[z];rfl
  have f:=Ab (show¬Cq k xs from fun E=>by have:=E.1;omega);clear h z;go_enter Tryz.func179,Tryz.ntmps179;go_wp2;go_ret;exact⟨DK.no (Aa f),Below.refl _ _⟩
 ·have C:((xs.length:Int)==0)=false:=by simp only[beq_eq_false_iff_ne,ne_eq];omega
  by_cases m:xs.length=sizeOfK k
  ·have hp:=N4 (k:=k) (by omega)
   have D:((xs.length:Int) !=((sizeOfK k:Nat):Int))=false:=by rw[m];simp
   have o:xs.length<=1048576:=by omega
   obtain⟨q,s⟩:=Int.eq_ofNat_of_zero_le (show 0<=k/64 by omega)
   have I:∀q:Nat,((q:Int)==0)=true↔q=0:=fun q=>by
    by_cases e:q=0
    ·subst e;simp
    ·simp[e]
   have H:=Ab I;clear I;by_cases b:q<xs.length
   ·have r:=Ab (XL h.2.1 (by omega) m (by omega) s b)
    have f:=Ab (fun wx (l:RowAt wx a xs.length xs)=>Yn a xs.length c xs k q wx l o (by omega) (by omega) s b);have d:((Da xs 0 q).set q (xs.getD q 0&&&fmask (k%64).toNat)).length=xs.length:=by rw[List.length_set,Io]
    have u:=Ab d;generalize (Da xs 0 q).set q (xs.getD q 0&&&fmask (k%64).toNat)=res at*;clear s b m d;go_enter Tryz.func179,Tryz.ntmps179;go_wp2_with (go_at_call 176;refine(Aa x _).mono ?_;rintro e w' ⟨rfl,rfl⟩);refine(Aa f _ h).mono ?_;rintro e w1 ⟨v,rfl,p,A⟩;obtain⟨y,c1,rfl,l⟩:=p.row;go_wp2_with fail;refine(GP y _ c1 _ _ l (by rw[Aa u];omega)).mono ?_;rintro e w2 ⟨rfl,rfl⟩;clear p;go_wp2;go_ret;exact⟨⟨_,rfl,(Aa H _).trans (Aa r)⟩,A⟩
   ·have j:k/64=(xs.length:Int):=by omega
    have r:=Ab (nN (by omega) m j);have f:=Ab (fun wx (l:RowAt wx a xs.length xs)=>qO a xs.length c xs k wx l o (by omega) (by omega) (by omega) j);have u:=Ab (Io xs.length 0 xs);generalize Da xs 0 xs.length=res at*;clear s b j m;go_enter Tryz.func179,Tryz.ntmps179;go_wp2_with (go_at_call 176;refine(Aa x _).mono ?_;rintro e w' ⟨rfl,rfl⟩);refine(Aa f _ h).mono ?_;rintro e w1 ⟨v,rfl,p,A⟩;obtain⟨y,c1,rfl,l⟩:=p.row;go_wp2_with fail;refine(GP y _ c1 _ _ l (by rw[Aa u];omega)).mono ?_;rintro e w2 ⟨rfl,rfl⟩;clear p;go_wp2;go_ret;exact⟨⟨_,rfl,(Aa H _).trans ⟨fun _=>(Aa r).2,fun _=>(Aa r).1⟩⟩,A⟩
  ·have D:((xs.length:Int) !=((sizeOfK k:Nat):Int))=true:=by rw[bne_iff_ne];omega
   have f:=Ab (show¬Cq k xs from fun E=>m E.2.1);clear h z m;go_enter Tryz.func179,Tryz.ntmps179;go_wp2_with (go_at_call 176;refine(Aa x _).mono ?_;rintro e w' ⟨rfl,rfl⟩);go_ret;exact⟨DK.no (Aa f),Below.refl _ _⟩
theorem NZ(n:Nat):Ac (List.replicate n 0):=fun x a=>by rw[(List.mem_replicate.1 a).2];show 0<18446744073709551616;decide
theorem D8(a:0<sizeOfK k):k.toNat<=64*sizeOfK k/\1<=k/\k<=128:=by
 obtain⟨b,c,d⟩:=N4 a;omega
def AV(k:Int)(xs:List Nat):Bool:=decide (0<xs.length)&&decide (xs.length=sizeOfK k)&&(List.range (64*xs.length)).all fun i=>decide (i<k.toNat)|| !Ai xs i
theorem Hc:AV k xs=true↔Cq k xs:=by
 unfold AV Cq;rw[Bool.and_eq_true,Bool.and_eq_true,decide_eq_true_eq,decide_eq_true_eq,List.all_eq_true,and_assoc];refine and_congr_right fun _=>and_congr_right fun _=>?_;constructor
 ·intro h i a
  by_cases b:i<64*xs.length
  ·have:=h i (List.mem_range.2 b)
   rw[decide_eq_false (by omega)]at this;simpa using this
  ·exact E1 xs i (by omega)
 ·intro h i _
  by_cases a:i<k.toNat
  ·simp[a]
  ·rw[h i (by omega)];simp
theorem Gg(h:AV k xs=true):0<sizeOfK k/\xs.length=sizeOfK k/\∀i,Ai xs i=true->i<k.toNat:=by
 obtain⟨e,c,d⟩:=Hc.1 h;refine⟨by omega,c,fun i b=>?_⟩;rcases Nat.lt_or_ge i k.toNat with a|a
 ·exact a
 ·rw[d i a]at b;cases b
theorem Nx{e:Ending}(h:DK e (Cq k xs)):e=.returned (.bool (AV k xs)):=by
 obtain⟨b,rfl,c⟩:=h;have:b=AV k xs:=by
  cases a:AV k xs
  ·rw[<-Bool.not_eq_true]
   intro h;rw[Hc.2 (c.1 h)]at a;cases a
  ·exact c.2 (Hc.1 a)
 rw[this]
def unitL(k i:Int):List Nat:=if i<0\/k<=i then []else Fa (List.replicate (sizeOfK k) 0) i true
theorem We{w':World}{n:Nat}(h:w'.ownsRow w.heap.size 265 1 (.slice (some ⟨w.heap.size,0,none⟩) n n) n (madeCells (Value.int .u64 0).cells (n*1)).toList):
  Own w' w.heap.size (.slice (some ⟨w.heap.size,0,none⟩) n n) (List.replicate n 0):=by
 refine⟨fun x a=>?_,?_⟩
 ·rw[(List.mem_replicate.1 a).2];show 0<18446744073709551616;decide
 ·have e:cellsU (List.replicate n 0)=(madeCells (Value.int .u64 0).cells (n*1)).toList:=by
   rw[show(Value.int .u64 0).cells=#[Value.int .u64 0] from rfl,toList_madeCells_one];simp[cellsU]
  rw[e,List.length_replicate];exact h
theorem D6(k:Int):sizeOfK k<=2:=by
 unfold sizeOfK;split
 ·omega
 ·omega
theorem V3(k i:Int)(w:World)(I:i<=9223372036854775807):
  Calls Tryz.prog 258 #[.int .i64 k,.int .i64 i] w fun e w'=> ∃v,e=.returned v/\Own w' w.heap.size v (unitL k i)/\Below w.heap.size w w':=by
 have H:=Ab (Hn k);by_cases b:i<0\/k<=i
 ·have l:=Ab (show unitL k i=[] from by unfold unitL;rw[if_pos b])
  by_cases O:i<0
  ·have f:decide (i<0)=true:=by simp;omega
   clear b;go_enter Tryz.func258,Tryz.ntmps258;go_wp2;go_ret;exact⟨_,rfl,by rw[Aa l];exact Own.nil _ _,Below.refl _ _⟩
  ·have f:decide (i<0)=false:=by simp;omega
   have p:decide (k<=i)=true:=by simp;omega
   clear b;go_enter Tryz.func258,Tryz.ntmps258;go_wp2;go_ret;exact⟨_,rfl,by rw[Aa l];exact Own.nil _ _,Below.refl _ _⟩
 ·have l:=Ab (show unitL k i=Fa (List.replicate (sizeOfK k) 0) i true from by unfold unitL;rw[if_neg b])
  have f:decide (i<0)=false:=by simp;omega
  have p:decide (k<=i)=false:=by simp;omega
  have Q:=D6 k;obtain⟨L,r,u,x,y⟩:=info_parts KV;obtain⟨C,A,c,a⟩:=run_make_full (P:=Tryz.prog) w w.heap.size 40 265 L (.int .u64 0) 1 Tryz.underlying40 r u x .i64 .i64 (sizeOfK k) (by rw[y];omega) (by unfold maxLen;omega) (Nat.le_refl _);have z:=We c;have n:Below w.heap.size w C:=(Below.refl _ _).grown a (Nat.le_refl _) (fun k J=>by cases J);obtain⟨N,c1,m,s⟩:=z.row;rw[List.length_replicate]at m s;have j:RowAt C (some ⟨w.heap.size,0,none⟩) (sizeOfK k) (List.replicate (sizeOfK k) 0):=by
   simp only[Value.slice.injEq]at m;rw[m.1];exact s
  clear b c a z m s;go_enter Tryz.func258,Tryz.ntmps258;go_wp2_with (go_at_call 176;refine(Aa H _).mono ?_;rintro e w' ⟨rfl,K⟩;obtain rfl:=K.symm);refine(Xa _ _ _ _ _ _ _ j (by omega) I).mono ?_;rintro e w2 ⟨v,rfl,h,d⟩;have E:=Ab h;have D:=Ab (n.trans (d.mono n.size));clear h d j;have o:=n.size;go_wp2;go_ret;exact⟨_,rfl,by rw[Aa l];exact(Aa E).mono o,Aa D⟩
end Go.Proofs.YtfpmnekaockodaaGreatDoor
