/-
  Laws that the proof stands on.
-/
import Derived.Test.YtfpfcnfmigaphaaGreatDoorU17
namespace Go.Proofs.YtfpfcnfmigaphaaGreatDoor
open Go.RowKit Go.Sort Go.Conc
set_option linter.unusedVariables false
set_option linter.unusedSimpArgs false
set_option maxRecDepth 4000
set_option maxHeartbeats 8000000
variable {s t T t':ByteArray}{kd fr ic o l k z h o' l' k' z' h':Int}{xs ys:List Nat}{en:Nat}
def hdK(t:ByteArray):Nat:=(tx t).getD 0 0
def hdF(t:ByteArray):Nat:=(tx t).getD 1 0
def hdI(t:ByteArray):Nat:=num (((tx t).drop 2).take 4)
def C8(t:ByteArray):ByteArray:=t.extract 6 t.size
def DV(t:ByteArray):Prop:=8<=hdF t\/(hdK t≠1/\hdK t≠2)\/(hdK t=1/\6<t.size)
def FZ(kd fr ic o l k z h:Int)(xs:List Nat)(t:ByteArray):Prop:=(kd=0/\fr=0/\ic=0)/\A6 o l k z h xs t
def KL(T:ByteArray)(kd fr ic:Int):Prop:=kd=hdK T/\fr=hdF T/\ic=hdI T
def Hz(T:ByteArray)(kd fr ic o l k z h:Int)(xs:List Nat)(t:ByteArray)(en:Nat):Prop:=
 (T.size<6->en=2/\FZ kd fr ic o l k z h xs t)/\(¬T.size<6->DV T->en=3/\FZ kd fr ic o l k z h xs t)/\
 (¬T.size<6->¬DV T->hdK T=1->en=0/\KL T kd fr ic/\A6 o l k z h xs t)/\
 (¬T.size<6->¬DV T->hdK T≠1->BP (C8 T) o l k z h xs t en/\(en≠0->kd=0/\fr=0/\ic=0)/\(en=0->KL T kd fr ic))
def Ay(s:ByteArray)(kd fr ic o l k z h:Int)(xs:List Nat)(t:ByteArray)(en:Nat):Prop:=
 (openE s≠0->en=openE s/\FZ kd fr ic o l k z h xs t)/\(openE s=0->Hz (openT s) kd fr ic o l k z h xs t en)
theorem VU(a:openE s≠0)(b:en=openE s)(c:FZ kd fr ic o l k z h xs t):Ay s kd fr ic o l k z h xs t en:=
 ⟨fun _=>⟨b,c⟩,fun h=>absurd h a⟩
theorem TY(a:T.size<6)(b:en=2)(c:FZ kd fr ic o l k z h xs t):Hz T kd fr ic o l k z h xs t en:=
 ⟨fun _=>⟨b,c⟩,fun h=>absurd a h,fun h=>absurd a h,fun h=>absurd a h⟩
theorem Mq(b:¬T.size<6)(a:DV T)(c:en=3)(d:FZ kd fr ic o l k z h xs t):Hz T kd fr ic o l k z h xs t en:=
 ⟨fun h=>absurd h b,fun _ _=>⟨c,d⟩,fun _ h=>absurd a h,fun _ h=>absurd a h⟩
theorem TW(b:¬T.size<6)(c:¬DV T)(a:hdK T=1)(d:en=0)(e:KL T kd fr ic)(f:A6 o l k z h xs t):Hz T kd fr ic o l k z h xs t en:=
 ⟨fun h=>absurd h b,fun _ h=>absurd h c,fun _ _ _=>⟨d,e,f⟩,fun _ _ h=>absurd a h⟩
theorem VT(b:¬T.size<6)(c:¬DV T)(a:hdK T≠1)(d:BP (C8 T) o l k z h xs t en)(e:en≠0->kd=0/\fr=0/\ic=0)(f:en=0->KL T kd fr ic):Hz T kd fr ic o l k z h xs t en:=
 ⟨fun h=>absurd h b,fun _ h=>absurd h c,fun _ _ h=>absurd h a,fun _ _ _=>⟨d,e,f⟩⟩
theorem A6.uniq(a:A6 o l k z h xs t)(b:A6 o' l' k' z' h' ys t'):(o=o'/\l=l'/\k=k'/\z=z'/\h=h')/\xs=ys/\t=t':=by
 obtain⟨c,d,e,f,g,i,j⟩:=a;obtain⟨m,n,p,q,r,u,v⟩:=b;rw[c,d,e,f,g,i,j,m,n,p,q,r,u,v];exact⟨⟨rfl,rfl,rfl,rfl,rfl⟩,rfl,rfl⟩
def PK(kd fr ic o l k z h:Int)(xs:List Nat)(t:ByteArray)(en:Nat)(d b c o' l' k' z' h':Int)(ys:List Nat)(t':ByteArray)(a:Nat):Prop:=
 (kd=d/\fr=b/\ic=c)/\(o=o'/\l=l'/\k=k'/\z=z'/\h=h')/\xs=ys/\t=t'/\en=a
theorem FZ.uniq{i f g:Int}{e:Nat}(u:en=e)(q:FZ kd fr ic o l k z h xs t)(r:FZ i f g o' l' k' z' h' ys t'):PK kd fr ic o l k z h xs t en i f g o' l' k' z' h' ys t' e:=by
 obtain⟨⟨a,b,c⟩,d⟩:=q;obtain⟨⟨j,m,n⟩,p⟩:=r;have:=d.uniq p;exact⟨⟨a.trans j.symm,b.trans m.symm,c.trans n.symm⟩,this.1,this.2.1,this.2.2,u⟩
theorem Ay.uniq{d b c:Int}{a:Nat}(e:Ay s kd fr ic o l k z h xs t en)(f:Ay s d b c o' l' k' z' h' ys t' a):
  PK kd fr ic o l k z h xs t en d b c o' l' k' z' h' ys t' a:=by
 by_cases c1:openE s=0
 ·obtain⟨y,A,a3,a4⟩:=e.2 c1
  obtain⟨B,C,D,E⟩:=f.2 c1;generalize openT s=T at*;by_cases c2:T.size<6
  ·exact FZ.uniq ((y c2).1.trans (B c2).1.symm) (y c2).2 (B c2).2
  ·by_cases c3:DV T
   ·exact FZ.uniq ((A c2 c3).1.trans (C c2 c3).1.symm) (A c2 c3).2 (C c2 c3).2
   ·by_cases c4:hdK T=1
    ·obtain⟨q,⟨r,u,G⟩,H⟩:=a3 c2 c3 c4
     obtain⟨v,⟨w,x,I⟩,J⟩:=D c2 c3 c4;have:=H.uniq J;exact⟨⟨r.trans w.symm,u.trans x.symm,G.trans I.symm⟩,this.1,this.2.1,this.2.2,q.trans v.symm⟩
    ·obtain⟨q,r,u⟩:=a4 c2 c3 c4
     obtain⟨v,w,x⟩:=E c2 c3 c4;obtain⟨u1,u2,u3,u4⟩:=q.uniq v;subst u4;refine⟨?_,u1,u2,u3,rfl⟩;by_cases c5:en=0
     ·obtain⟨g,i,j⟩:=u c5
      obtain⟨m,n,p⟩:=x c5;exact⟨g.trans m.symm,i.trans n.symm,j.trans p.symm⟩
     ·obtain⟨g,i,j⟩:=r c5
      obtain⟨m,n,p⟩:=w c5;exact⟨g.trans m.symm,i.trans n.symm,j.trans p.symm⟩
 ·exact FZ.uniq ((e.1 c1).1.trans (f.1 c1).1.symm) (e.1 c1).2 (f.1 c1).2
def ML(o l k z h:Int)(xs:List Nat)(s:ByteArray):Prop:=KM o l k z h xs s 0 0 0 0 0 [] ⟨#[]⟩
def If(kd o l k z h:Int)(xs:List Nat)(s:ByteArray):Prop:=(kd=1/\ML o l k z h xs s)\/(kd=2/\BS o l k z h xs s.size)
def KK(kd fr ic o l k z h:Int)(xs:List Nat)(s:ByteArray):Prop:=(0<=fr/\fr<=7)/\(0<=ic/\ic<=4294967295)/\If kd o l k z h xs s
def Dl(kd o l k z h:Int)(xs:List Nat)(s:ByteArray):ByteArray:=if kd=2 then st (BF o l k z h xs (tx s))else⟨#[]⟩
def C7(kd fr ic:Int)(b:List Nat):List Nat:=Bz kd 1++Bz fr 1++Bz ic 4++b
def E1(kd fr ic o l k z h:Int)(xs:List Nat)(s:ByteArray):ByteArray:=CA (st (C7 kd fr ic (tx (Dl kd o l k z h xs s))))
theorem Q2(kd fr ic:Int)(b:List Nat)(a:bytes b):bytes (C7 kd fr ic b):=
 FM (FM (FM (Gi _ _) (Gi _ _)) (Gi _ _)) a
theorem NW(kd fr ic:Int)(b:List Nat):(C7 kd fr ic b).length=6+b.length:=by
 unfold C7;simp only[List.length_append,Fu,Ec,C5]
theorem Xg(a:If kd o l k z h xs s):kd=1\/kd=2:=by
 rcases a with h|h
 ·exact .inl h.1
 ·exact .inr h.1
theorem Ks(o l k z h:Int)(xs:List Nat)(s:ByteArray):Dl 1 o l k z h xs s=⟨#[]⟩:=if_neg (by decide)
theorem Kt(o l k z h:Int)(xs:List Nat)(s:ByteArray):Dl 2 o l k z h xs s=st (BF o l k z h xs (tx s)):=if_pos rfl
theorem Py{b:List Nat}{K F I:Nat}(d:bytes b)(m:kd=(K:Int))(i:fr=(F:Int))(j:ic=(I:Int))(f:K<256)(g:F<256)(n:I<4294967296):
  (st (C7 kd fr ic b)).size=6+b.length/\hdK (st (C7 kd fr ic b))=K/\hdF (st (C7 kd fr ic b))=F/\hdI (st (C7 kd fr ic b))=I/\C8 (st (C7 kd fr ic b))=st b:=by
 have c:(st (C7 kd fr ic b)).size=6+b.length:=by rw[Dz,NW]
 have ht:=DD (Q2 kd fr ic b d);have e:C7 kd fr ic b=K::F::(be 4 I++b):=by
  unfold C7;rw[Ec,Ec,Fu,Ea m (by omega),Ea i (by omega),Ea j (by omega),IR,IR,Nat.mod_eq_of_lt f,Nat.mod_eq_of_lt g];simp
 have a:=C5 4 I;refine⟨c,?_,?_,?_,?_⟩
 ·unfold hdK;rw[ht,e];rfl
 ·unfold hdF;rw[ht,e];rfl
 ·unfold hdI
  rw[ht,e,List.drop_succ_cons,List.drop_succ_cons,List.drop_zero,List.take_left' a,KH];exact Nat.mod_eq_of_lt (by omega)
 ·apply IQ
  unfold C8;rw[El,ht,c,DD d,e,List.drop_succ_cons,List.drop_succ_cons];rw[List.drop_left' a];exact List.take_of_length_le (by omega)
theorem Uw(xs:List Nat):cnt (xorL xs xs)=0:=Q1 _ (aY _)
theorem mm(J:Ac xs)(G:KK kd fr ic o l k z h xs s){j f i o' l' k' z' h':Int}{ys:List Nat}{t:ByteArray}{en:Nat}
  (H:Ay (E1 kd fr ic o l k z h xs s) j f i o' l' k' z' h' ys t en):en=0/\(kd=j/\fr=f/\ic=i)/\KM o l k z h xs s o' l' k' z' h' ys t:=by
 have y:=St (st (C7 kd fr ic (tx (Dl kd o l k z h xs s))));have q:=H.2 y.1;unfold E1 at q;rw[y.2]at q;obtain⟨⟨f0,f7⟩,⟨i0,i1⟩,g⟩:=G;obtain⟨F,n⟩:∃F:Nat,fr=(F:Int):=⟨fr.toNat,by omega⟩;obtain⟨I,p⟩:∃I:Nat,ic=(I:Int):=⟨ic.toNat,by omega⟩;rcases g with⟨c,w⟩|⟨c,w⟩
 ·obtain⟨A,e,u,v,m⟩:=Py (Bk (Dl kd o l k z h xs s)) (K:=1) c n p (by decide) (by omega) (by omega)
  have b:(tx (Dl kd o l k z h xs s)).length=0:=by rw[c,Ks];rfl
  rw[b]at A;generalize st (C7 kd fr ic (tx (Dl kd o l k z h xs s)))=T at*;have d:¬DV T:=by
   rintro(a|a|a)
   ·omega
   ·exact a.1 e
   ·omega
  obtain⟨r,⟨B,x,X⟩,Y⟩:=q.2.2.1 (by omega) d e;refine⟨r,⟨by rw[B,e,c];rfl,by rw[x,u,n],by rw[X,v,p]⟩,?_⟩;obtain⟨L,N,O,P,Q,R,S⟩:=Y;rw[L,N,O,P,Q,R,S];exact w
 ·obtain⟨A,e,u,v,m⟩:=Py (Bk (Dl kd o l k z h xs s)) (K:=2) c n p (by decide) (by omega) (by omega)
  have b:Dl kd o l k z h xs s=st (BF o l k z h xs (tx s)):=by rw[c,Kt]
  rw[GU]at m;generalize st (C7 kd fr ic (tx (Dl kd o l k z h xs s)))=T at*;rw[b]at m;have d:¬DV T:=by
   rintro(a|a|a)
   ·omega
   ·exact a.2 e
   ·omega
  obtain⟨r,B,x⟩:=q.2.2.2 (by omega) d (by omega);rw[m]at r;obtain⟨C,D,E⟩:=VZ (t:=s) J w;obtain⟨u1,u2,u3,u4⟩:=r.uniq (.inr (.inr ⟨C,D,rfl,E⟩));obtain⟨Z,y3,y4⟩:=x u4;refine⟨u4,⟨by rw[Z,e,c];rfl,by rw[y3,u,n],by rw[y4,v,p]⟩,?_⟩;obtain⟨V,W,v3,v4,v5⟩:=u1;rw[V,W,v3,v4,v5,u2,u3];exact⟨⟨⟨rfl,rfl,rfl,rfl,rfl⟩,rfl⟩,Uw xs⟩
theorem Tq(a:A6 o l k z h xs t):ML o l k z h xs t:=by
 obtain⟨b,c,d,e,f,g,i⟩:=a;rw[b,c,d,e,f,g,i];exact⟨⟨⟨rfl,rfl,rfl,rfl,rfl⟩,rfl⟩,Uw []⟩
theorem ZK(g:6<=T.size):Bz (hdK T) 1++Bz (hdF T) 1++Bz (hdI T) 4=(tx T).take 6:=by
 have b:=Bk T;have m:=AQ T;have a:∀i,(tx T).getD i 0<256:=fun i=>b.get i;have e:m64 (hdI T:Int)=hdI T:=Ea rfl (Nat.lt_trans (IA (FK (FJ b 2) 4) (k:=4) (by rw[List.length_take];omega)) (by decide));have mk:m64 (hdK T:Int)=hdK T:=Ea rfl (Nat.lt_trans (a 0) (by decide));have d:m64 (hdF T:Int)=hdF T:=Ea rfl (Nat.lt_trans (a 1) (by decide))
 have c:∀i,i<T.size->be 1 ((tx T).getD i 0)=((tx T).drop i).take 1:=fun i j=>by
  rw[IR,Nat.mod_eq_of_lt (a i)];have:i<(tx T).length:=by omega
  rw[List.drop_eq_getElem_cons this,List.take_succ_cons,List.take_zero,List.getD_eq_getElem?_getD,List.getElem?_eq_getElem this];rfl
 have f:be 4 (hdI T)=((tx T).drop 2).take 4:=LL (FK (FJ b 2) 4) (by rw[List.length_take,List.length_drop];omega);rw[Fu,Ec,Ec,e,mk,d,f,show be 1 (hdK T)=((tx T).drop 0).take 1 from c 0 (by omega),show be 1 (hdF T)=((tx T).drop 1).take 1 from c 1 (by omega)];rw[List.drop_zero,<-List.take_add,<-List.take_add]
theorem TZ(j:Ay s kd fr ic o l k z h xs t 0):
  KK kd fr ic o l k z h xs t/\E1 kd fr ic o l k z h xs t=s:=by
 have m:openE s=0:=by
  by_cases g:openE s=0
  ·exact g
  ·have:=(j.1 g).1
   omega
 have a:=kh s m;obtain⟨x,y,a3,a4⟩:=j.2 m;unfold E1;generalize openT s=T at*;have c2:¬T.size<6:=fun h=>by have:=(x h).1;omega
 have c3:¬DV T:=fun h=>by have:=(y c2 h).1;omega
 have H:¬8<=hdF T:=fun h=>c3 (.inl h);have O:hdI T<4294967296:=Nat.lt_of_lt_of_le (IA (FK (FJ (Bk T) 2) 4) (k:=4) (by rw[List.length_take];omega)) (by decide);have D:=ZK (T:=T) (by omega);have P:=AQ T
 suffices d:KL T kd fr ic/\If kd o l k z h xs t/\tx (Dl kd o l k z h xs t)=(tx T).drop 6 by
  obtain⟨⟨A,B,C⟩,b,G⟩:=d;refine⟨⟨by omega,by omega,b⟩,?_⟩;unfold C7;rw[G,A,B,C,D,List.take_append_drop,GU];exact a
 by_cases c4:hdK T=1
 ·obtain⟨_,e,J⟩:=a3 c2 c3 c4
  have E:¬6<T.size:=fun h=>c3 (.inr (.inr ⟨c4,h⟩));have c:kd=1:=by rw[e.1,c4];rfl
  refine⟨e,.inl ⟨c,Tq J⟩,?_⟩;rw[c,Ks,List.drop_eq_nil_of_le (by omega)];rfl
 ·have c5:hdK T=2:=by
   by_cases h:hdK T=2
   ·exact h
   ·exact absurd (.inr (.inl ⟨c4,h⟩)) c3
  obtain⟨e,_,K⟩:=a4 c2 c3 c4;have d:=K rfl;have c:kd=2:=by rw[d.1,c5];rfl
  obtain⟨_,I,f,n,p,q,r,u,v,w⟩|⟨i,_⟩:=e.err
  ·obtain⟨L,N⟩:=W9 I f
   refine⟨d,.inr ⟨c,?_⟩,?_⟩
   ·unfold Ct at f
    rw[n,p,q,r,u,v,w,L];exact f
   ·rw[c,Kt,n,p,q,r,u,v,w,N]
    unfold C8;rw[El,List.take_of_length_le (by rw[List.length_drop];omega)]
  ·omega
theorem Ay.none(b:Ay s kd fr ic o l k z h xs t en)(a:en≠0):FZ kd fr ic o l k z h xs t:=by
 by_cases c1:openE s=0
 ·obtain⟨c,d,a3,a4⟩:=b.2 c1
  generalize openT s=T at*;by_cases c2:T.size<6
  ·exact(c c2).2
  ·by_cases c3:DV T
   ·exact(d c2 c3).2
   ·by_cases c4:hdK T=1
    ·exact absurd (a3 c2 c3 c4).1 a
    ·obtain⟨e,f,_⟩:=a4 c2 c3 c4
     obtain⟨h,_⟩|⟨_,h⟩:=e.err
     ·exact absurd h a
     ·exact⟨f a,h⟩
 ·exact(b.1 c1).2
def FI(w:World)(g:Nat)(u0 u1 u2 v0 a b v3 v4 v5 c:Value):Prop:=
 (w.cell? ⟨g,0,none⟩=some u0/\w.cell? ⟨g,1,none⟩=some u1/\w.cell? ⟨g,2,none⟩=some u2)/\w.cell? ⟨g,3,none⟩=some v0/\w.cell? ⟨g,4,none⟩=some a/\w.cell? ⟨g,5,none⟩=some b/\w.cell? ⟨g,6,none⟩=some v3/\w.cell? ⟨g,7,none⟩=some v4/\w.cell? ⟨g,8,none⟩=some v5/\w.cell? ⟨g,9,none⟩=some c
theorem YB(w:World)(u0 u1 u2 v0 a b v3 v4 v5 c:Value):FI (w.alloc (.cells #[u0,u1,u2,v0,a,b,v3,v4,v5,c] 78)) w.heap.size u0 u1 u2 v0 a b v3 v4 v5 c:=by
 refine⟨⟨?_,?_,?_⟩,?_,?_,?_,?_,?_,?_,?_⟩<;>simp
theorem FI.below{w w':World}{g:Nat}{u0 u1 u2 v0 b c v3 v4 v5 d:Value}(h:FI w g u0 u1 u2 v0 b c v3 v4 v5 d)(u:Below w.heap.size w w'):FI w' g u0 u1 u2 v0 b c v3 v4 v5 d:=by
 obtain⟨⟨a,f,g2⟩,i,j,m,n,p,q,r⟩:=h;have e:∀o,w'.cell? ⟨g,o,none⟩=w.cell? ⟨g,o,none⟩:=fun o=>u.cell (show g<w.heap.size from World.block_lt_of_cell? w ⟨g,0,none⟩ a);exact⟨⟨(e _).trans a,(e _).trans f,(e _).trans g2⟩,(e _).trans i,(e _).trans j,(e _).trans m,(e _).trans n,(e _).trans p,(e _).trans q,(e _).trans r⟩
theorem pB(x:Value)(w:World):(Instr.makeInterface 232 x).run Tryz.prog w=.ok (.iface 232 x) w:=run_makeInterface w 232 x (by kernel_rfl)
theorem XQ(x:Value)(w:World):(Instr.makeInterface 233 x).run Tryz.prog w=.ok (.iface 233 x) w:=run_makeInterface w 233 x (by kernel_rfl)
theorem Qd(v:Value)(w:World):(Instr.typeAssert (.iface 232 v) 20 232 true).run Tryz.prog w=.ok (.tuple #[v,.bool true]) w:=by kernel_rfl
theorem MH(v:Value)(w:World):(Instr.typeAssert (.iface 233 v) 20 233 true).run Tryz.prog w=.ok (.tuple #[v,.bool true]) w:=by kernel_rfl
theorem Qc(v:Value)(w:World):(Instr.typeAssert (.iface 233 v) 20 232 true).run Tryz.prog w=.ok (.tuple #[.agg #[.int .i64 0,.int .i64 0,.int .i64 0,.int .i64 0,.int .i64 0,.slice none 0 0,.string ⟨#[]⟩],.bool false]) w:=by kernel_rfl
theorem ZE(v:Value)(w:World):(Instr.typeAssert (.iface 232 v) 20 233 true).run Tryz.prog w=.ok (.tuple #[.agg #[.int .i64 0,.int .i64 0,.int .i64 0,.int .i64 0,.int .i64 0,.slice none 0 0,.string ⟨#[]⟩],.bool false]) w:=by kernel_rfl
theorem Qf(w:World):(Instr.typeAssert .nilIface 20 232 true).run Tryz.prog w=.ok (.tuple #[.agg #[.int .i64 0,.int .i64 0,.int .i64 0,.int .i64 0,.int .i64 0,.slice none 0 0,.string ⟨#[]⟩],.bool false]) w:=by kernel_rfl
theorem Qe(w:World):(Instr.typeAssert .nilIface 20 233 true).run Tryz.prog w=.ok (.tuple #[.agg #[.int .i64 0,.int .i64 0,.int .i64 0,.int .i64 0,.int .i64 0,.slice none 0 0,.string ⟨#[]⟩],.bool false]) w:=by kernel_rfl
theorem Q5(n c:Int)(w:World)(b:Bool)(d:TB b (0<=n/\n<=c)):
  Calls Tryz.prog 191 #[.int .i64 n,.int .i64 c] w fun e w'=>e=.returned (.bool b)/\w'=w:=by
 have a:=Ab d;clear d;by_cases f:0<=n
 ·by_cases g:n<=c
  ·go_enter Tryz.func191,Tryz.ntmps191
   go_wp2;go_ret;exact⟨BJ ((Aa a).yes ⟨f,g⟩).symm,rfl⟩
  ·go_enter Tryz.func191,Tryz.ntmps191
   go_wp2;go_ret;exact⟨BJ ((Aa a).no (fun h=>by omega)).symm,rfl⟩
 ·go_enter Tryz.func191,Tryz.ntmps191
  go_wp2;go_ret;exact⟨BJ ((Aa a).no (fun h=>by omega)).symm,rfl⟩
def F3(kd:Int)(v0 a b v3 v4 v5 c:Value):Value:=if kd=1 then .iface 232 (.agg #[v0,a,b,v3,v4,v5,c])else if kd=2 then .iface 233 (.agg #[v0,a,b,v3,v4,v5,c])else .nilIface
theorem Mt(v0 a b v3 v4 v5 c:Value):F3 1 v0 a b v3 v4 v5 c=.iface 232 (.agg #[v0,a,b,v3,v4,v5,c]):=rfl
theorem Mu(v0 a b v3 v4 v5 c:Value):F3 2 v0 a b v3 v4 v5 c=.iface 233 (.agg #[v0,a,b,v3,v4,v5,c]):=rfl
theorem Pu{kd:Int}(a:kd≠1)(b:kd≠2)(v0 c d v3 v4 v5 e:Value):F3 kd v0 c d v3 v4 v5 e=.nilIface:=by
 unfold F3;rw[if_neg a,if_neg b]
theorem Oy(kd:Int)(u1 u2 v0 b c v3 v4 v5 d:Value)(w:World):
  Calls Tryz.prog 67 #[.agg #[.int .i64 kd,u1,u2,v0,b,c,v3,v4,v5,d]] w fun e w'=>e=.returned (F3 kd v0 b c v3 v4 v5 d)/\Below w.heap.size w w':=by
 have a:=Ab (AN w (.cells #[.int .i64 kd,u1,u2,v0,b,c,v3,v4,v5,d] 78));have i:=pB;have j:=XQ;by_cases f:kd=1
 ·subst f
  rw[Mt];go_enter Tryz.func67,Tryz.ntmps67;go_wp2;go_ret;exact⟨rfl,Aa a⟩
 ·by_cases g:kd=2
  ·subst g
   rw[Mu];go_enter Tryz.func67,Tryz.ntmps67;go_wp2;go_ret;exact⟨rfl,Aa a⟩
  ·rw[Pu f g]
   go_enter Tryz.func67,Tryz.ntmps67;go_wp2;go_ret;exact⟨rfl,Aa a⟩
theorem eo(o l k z h:Int)(a:Option Addr)(n c:Nat)(xs:List Nat)(s:ByteArray)(w:World)(ht:Tab w)(m:RowAt w a n xs)(j:n<=1048576)(b:Bool)(i:TB b (ML o l k z h xs s)):
  Calls Tryz.prog 192 #[.iface 232 (.agg #[.int .i64 o,.int .i64 l,.int .i64 k,.int .i64 z,.int .i64 h,.slice a n c,.string s])] w fun e w'=>e=.returned (.bool b)/\Below w.heap.size w w':=by
 have u:=Ab (ht.below (AN w (.cells #[.int .i64 o,.int .i64 l,.int .i64 k,.int .i64 z,.int .i64 h,.slice a n c,.string s] 232)));have q:=Ab (Fh m (.cells #[.int .i64 o,.int .i64 l,.int .i64 k,.int .i64 z,.int .i64 h,.slice a n c,.string s] 232));have r:=Ab (fun wx (g:Tab wx) (f:RowAt wx a n xs)=>Tx o l k z h a n c xs s 0 0 0 0 0 none 0 0 [] ⟨#[]⟩ wx g f (FQ _) j (by decide) b i);have p:=Ab (AN w (.cells #[.int .i64 o,.int .i64 l,.int .i64 k,.int .i64 z,.int .i64 h,.slice a n c,.string s] 232));have v:=Qd;clear i ht m j;go_enter Tryz.func192,Tryz.ntmps192;go_wp2_with fail;refine(Aa r _ (Aa u) (Aa q)).mono ?_;rintro e w1 ⟨rfl,d⟩;have B1:=Ab (Ad (Aa p) d);clear d;go_wp2;go_ret;exact⟨rfl,Aa B1⟩
theorem ii(o l k z h:Int)(a:Option Addr)(n c:Nat)(xs:List Nat)(s:ByteArray)(w:World)(r:RowAt w a n xs)(b:Bool)(q:TB b (BS o l k z h xs s.size)):
  Calls Tryz.prog 192 #[.iface 233 (.agg #[.int .i64 o,.int .i64 l,.int .i64 k,.int .i64 z,.int .i64 h,.slice a n c,.string s])] w fun e w'=>e=.returned (.bool b)/\Below w.heap.size w w':=by
 obtain⟨ck,d⟩:=KO (BS o l k z h xs s.size);have m:=Ab q;have i:=Ab d;have p:=Ab (EU o l k z h a n c xs s _ (Fh r (.cells #[.int .i64 o,.int .i64 l,.int .i64 k,.int .i64 z,.int .i64 h,.slice a n c,.string s] 233)) ck d);have u:=Ab (AN w (.cells #[.int .i64 o,.int .i64 l,.int .i64 k,.int .i64 z,.int .i64 h,.slice a n c,.string s] 233));have v:=Qc;have x:=MH;clear q r d;go_enter Tryz.func192,Tryz.ntmps192;go_wp2_with fail;refine(Aa p).mono ?_;rintro e w1 ⟨rfl,g⟩;have B1:=Ab (Ad (Aa u) g);clear g p;rcases(Aa i)with⟨f,rfl⟩|⟨f,rfl⟩
 ·have j:=Ab f
  clear f i;go_wp2;go_ret;exact⟨BJ ((Aa m).yes (Aa j)).symm,Aa B1⟩
 ·have j:=Ab f
  clear f i;go_wp2;go_ret;exact⟨BJ ((Aa m).no (Aa j)).symm,Aa B1⟩
theorem ij(w:World):Calls Tryz.prog 192 #[.nilIface] w fun e w'=>e=.returned (.bool false)/\w'=w:=by
 have a:=Qf;have b:=Qe;go_enter Tryz.func192,Tryz.ntmps192;go_wp2;go_ret;exact⟨rfl,rfl⟩
theorem jE(kd o l k z h:Int)(a:Option Addr)(n c:Nat)(xs:List Nat)(s:ByteArray)(w:World)(ht:Tab w)(i:RowAt w a n xs)(m:n<=1048576)(b:Bool)(d:TB b (If kd o l k z h xs s)):
  Calls Tryz.prog 192 #[F3 kd (.int .i64 o) (.int .i64 l) (.int .i64 k) (.int .i64 z) (.int .i64 h) (.slice a n c) (.string s)] w fun e w'=>e=.returned (.bool b)/\Below w.heap.size w w':=by
 by_cases f:kd=1
 ·subst f
  rw[Mt];refine eo o l k z h a n c xs s w ht i m b ⟨fun h=>?_,fun h=>d.2 (.inl ⟨rfl,h⟩)⟩;rcases d.1 h with h|h
  ·exact h.2
  ·exact absurd h.1 (by decide)
 ·by_cases g:kd=2
  ·subst g
   rw[Mu];refine ii o l k z h a n c xs s w i b ⟨fun h=>?_,fun h=>d.2 (.inr ⟨rfl,h⟩)⟩;rcases d.1 h with h|h
   ·exact absurd h.1 (by decide)
   ·exact h.2
  ·rw[Pu f g]
   refine(ij w).mono fun e w' ⟨j,p⟩=>⟨?_,by rw[p];exact Below.refl _ _⟩;rw[j,d.no (fun h=>by rcases Xg h with h|h;exact f h;exact g h)]
theorem eZ(kd fr ic o l k z h:Int)(a:Option Addr)(n c:Nat)(xs:List Nat)(s:ByteArray)(w:World)(ht:Tab w)(H:RowAt w a n xs)(G:n<=1048576)(en:Nat)(g:Ev en (KK kd fr ic o l k z h xs s)):
  Calls Tryz.prog 140 #[.agg #[.int .i64 kd,.int .i64 fr,.int .i64 ic,.int .i64 o,.int .i64 l,.int .i64 k,.int .i64 z,.int .i64 h,.slice a n c,.string s]] w fun e w'=>e=.returned (.int .i64 ((en:Nat):Int))/\Below w.heap.size w w':=by
 obtain⟨A,D⟩:=Eo (0<=fr/\fr<=7);obtain⟨B,E⟩:=Eo (0<=ic/\ic<=4294967295);obtain⟨C,r⟩:=Eo (If kd o l k z h xs s);have p:=Ab D;have q:=Ab E;have y:=Ab r;have j:=Ab g;have J:=Ab (fun wx (v:Tab wx) (u:RowAt wx a n xs)=>jE kd o l k z h a n c xs s wx v u G C r);have I:=Ab (fun wx=>Oy kd (.int .i64 fr) (.int .i64 ic) (.int .i64 o) (.int .i64 l) (.int .i64 k) (.int .i64 z) (.int .i64 h) (.slice a n c) (.string s) wx);have L:=Ab ht;have K:=Ab H;have m:=Ab (AN w (.cells #[.int .i64 kd,.int .i64 fr,.int .i64 ic,.int .i64 o,.int .i64 l,.int .i64 k,.int .i64 z,.int .i64 h,.slice a n c,.string s] 78));generalize F3 kd (.int .i64 o) (.int .i64 l) (.int .i64 k) (.int .i64 z) (.int .i64 h) (.slice a n c) (.string s)=V at*;clear D E r g ht H G;go_enter Tryz.func140,Tryz.ntmps140;go_wp2_with fail;refine(Q5 fr 7 _ A (Aa p)).mono ?_;rintro e w' ⟨rfl,i⟩;obtain rfl:=i.symm;clear i;cases A
 ·rcases(Aa j)with⟨b,rfl⟩|⟨b,rfl⟩
  ·exact absurd ((Aa p).2 b.1) (by decide)
  ·clear b
   go_wp2;go_ret;exact⟨rfl,Aa m⟩
 ·go_wp2_with fail
  refine(Q5 ic 4294967295 _ B (Aa q)).mono ?_;rintro e w' ⟨rfl,i⟩;obtain rfl:=i.symm;clear i;cases B
  ·rcases(Aa j)with⟨b,rfl⟩|⟨b,rfl⟩
   ·exact absurd ((Aa q).2 b.2.1) (by decide)
   ·clear b
    go_wp2;go_ret;exact⟨rfl,Aa m⟩
  ·go_wp2_with fail
   refine(Aa I _).mono ?_;rintro e w1 ⟨rfl,d⟩;have B1:=Ab (Ad (Aa m) d);clear d;go_wp2_with fail;refine(Aa J _ ((Aa L).below (Aa B1)) ((Aa K).below (Aa B1))).mono ?_;rintro e w2 ⟨rfl,f⟩;have x:=Ab (Ad (Aa B1) f);clear f;cases C
   ·rcases(Aa j)with⟨b,rfl⟩|⟨b,rfl⟩
    ·exact absurd ((Aa y).2 b.2.2) (by decide)
    ·clear b
     go_wp2;go_ret;exact⟨rfl,Aa x⟩
   ·rcases(Aa j)with⟨b,rfl⟩|⟨b,rfl⟩
    ·clear b
     go_wp2;go_ret;exact⟨rfl,Aa x⟩
    ·exact absurd ⟨(Aa p).1 rfl,(Aa q).1 rfl,(Aa y).1 rfl⟩ b
theorem YT(o l k z h:Int)(xs:List Nat)(s:ByteArray):
  st (Bz o 4)++st (Bz l 4)++st (Bz k 1)++st (Bz z 1)++st (Bz h 1)++st (CT xs)++s=st (BF o l k z h xs (tx s)):=by
 apply IQ;rw[DD (J0 _ _ _ _ _ _ _ (Bk s))];simp only[Td,DD (Gi _ _),DD (SR _),BF]
theorem Oi(n:Int):(st (Bz n 4)).size=4:=by rw[Dz,Fu,C5]
theorem Kc(n:Int):(st (Bz n 1)).size=1:=by rw[Dz,Ec,C5]
theorem ZV{a b:ByteArray}{x:Int}(h:a=b):Ending.returned (.tuple #[.string a,.int .i64 x])=.returned (.tuple #[.string b,.int .i64 x]):=by rw[h]
theorem VR(o l k z h:Int)(a:Option Addr)(n c:Nat)(xs:List Nat)(s:ByteArray)(w:World)(B:RowAt w a n xs)(y:BS o l k z h xs s.size):
  Calls Tryz.prog 130 #[.agg #[.int .i64 o,.int .i64 l,.int .i64 k,.int .i64 z,.int .i64 h,.slice a n c,.string s]] w fun e w'=>e=.returned (.tuple #[.string (st (BF o l k z h xs (tx s))),.int .i64 0])/\Below w.heap.size w w':=by
 have Z:n<=2:=by have:=ID y.2.1;have:=B.1;omega
 have hs:s.size<=64:=by have:=y.2.2.2;have:=y.1.1.2.2;omega
 have hv:(st (CT xs)).size<=16:=by rw[Dz,I3,B.1];omega
 have E:=Ab (AN w (.cells #[.int .i64 o,.int .i64 l,.int .i64 k,.int .i64 z,.int .i64 h,.slice a n c,.string s] 59));have G:=Ab (EU o l k z h a n c xs s _ (Fh B (.cells #[.int .i64 o,.int .i64 l,.int .i64 k,.int .i64 z,.int .i64 h,.slice a n c,.string s] 59)) 0 (.inl ⟨y,rfl⟩));have I:=Ab (Fo w (.int .i64 o) (.int .i64 l) (.int .i64 k) (.int .i64 z) (.int .i64 h) (.slice a n c) (.string s));have H:=Ab (Fh B (.cells #[.int .i64 o,.int .i64 l,.int .i64 k,.int .i64 z,.int .i64 h,.slice a n c,.string s] 59));have P:=Ab (YT o l k z h xs s);have p1:=Oi o;have p2:=Oi l;have p3:=Kc k;have p4:=Kc z;have p5:=Kc h;have Q:=Ab (fun w'=>Hq o 4 w');have R:=Ab (fun w'=>Hq l 4 w');have S:=Ab (fun w'=>Hq k 1 w');have V:=Ab (fun w'=>Hq z 1 w');have X:=Ab (fun w'=>Hq h 1 w');have Y:=Ab (fun w' D=>fj a n c xs w' D (by omega));generalize st (BF o l k z h xs (tx s))=T at*;generalize st (Bz o 4)=q at*;generalize st (Bz l 4)=r at*;generalize st (Bz k 1)=t3 at*;generalize st (Bz z 1)=t4 at*;generalize st (Bz h 1)=t5 at*;generalize st (CT xs)=L at*;have q2:(9223372036854775807<q.size+r.size)=False:=eq_false (by omega);have q3:(9223372036854775807<q.size+r.size+t3.size)=False:=eq_false (by omega);have q4:(9223372036854775807<q.size+r.size+t3.size+t4.size)=False:=eq_false (by omega);have q5:(9223372036854775807<q.size+r.size+t3.size+t4.size+t5.size)=False:=eq_false (by omega);have q6:(9223372036854775807<q.size+r.size+t3.size+t4.size+t5.size+L.size)=False:=eq_false (by omega);have q7:(9223372036854775807<q.size+r.size+t3.size+t4.size+t5.size+L.size+s.size)=False:=eq_false (by omega);clear B y p1 p2 p3 p4 p5 Z hs hv;go_enter Tryz.func130,Tryz.ntmps130;go_wp2_with fail;refine(Aa G).mono ?_;rintro e w1 ⟨rfl,g⟩;have b:=Ab ((Aa I).below g);have u:=Ab ((Aa H).below g);have B1:=Ab (Ad (Aa E) g);clear g G E I H;have k0:=cell_regrown (Aa b).1;have k1:=cell_regrown (Aa b).2.1;have k2:=cell_regrown (Aa b).2.2.1;have k3:=cell_regrown (Aa b).2.2.2.1;have k4:=cell_regrown (Aa b).2.2.2.2.1
 have c1:=Cr (W:=w1) (fun w' p=>Aa Q w');have c2:=Cr (W:=w1) (fun w' p=>Aa R w');have c3:=Cr (W:=w1) (fun w' p=>Aa S w');have c4:=Cr (W:=w1) (fun w' p=>Aa V w');have c5:=Cr (W:=w1) (fun w' p=>Aa X w');go_wp2_with fail;refine wp_region_quiet_below (by kernel_rfl) (by kernel_rfl) ?_
 repeat (with_reducible refine wpQuiet_step (fun K f=>?_);go_simp;first|(with_reducible refine f _ ?_;clear f K)|(apply Exists.intro;apply And.intro;(intro _;go_at_call 141;first|with_reducible exact c1 _ _|with_reducible exact c2 _ _|with_reducible exact c3 _ _|with_reducible exact c4 _ _|with_reducible exact c5 _ _);with_reducible refine f _ ?_;clear f K))
 refine wpQuiet_nil ?_;intro w2 j;obtain⟨⟨x,d⟩,j⟩:=j;have i:Below w1.heap.size w1 w2:=by rw[j];exact below_regrown _ x d
 clear j k0 k1 k2 k3 k4 c1 c2 c3 c4 c5 x d;have v:=Ab ((Aa b).below i);have C:=Ab ((Aa u).below i);have N:=Ab (Ad (Aa B1) i);clear i b u B1;have k5:=cell_regrown (Aa v).2.2.2.2.2.1;have k6:=cell_regrown (Aa v).2.2.2.2.2.2;have J:=Cr (W:=w2) (fun w' p=>Aa Y w' ((Aa C).below p));go_wp2_with fail;refine wp_region_quiet_below (by kernel_rfl) (by kernel_rfl) ?_
 repeat (with_reducible refine wpQuiet_step (fun K f=>?_);go_simp;first|(with_reducible refine f _ ?_;clear f K)|(apply Exists.intro;apply And.intro;(intro _;go_at_call 182;exact J _ _);with_reducible refine f _ ?_;clear f K))
 refine wpQuiet_nil ?_;intro w3 m;obtain⟨⟨x,d⟩,m⟩:=m;have A:Below w2.heap.size w2 w3:=by rw[m];exact below_regrown _ x d
 clear m k5 k6 J x d;have O:=Ab (Ad (Aa N) A);clear A;go_wp2;go_ret2;exact⟨ZV (Aa P),Aa O⟩
theorem Xd(kd fr ic:Int)(B:ByteArray):st (Bz kd 1)++st (Bz fr 1)++st (Bz ic 4)++B=st (C7 kd fr ic (tx B)):=by
 apply IQ;rw[DD (Q2 _ _ _ _ (Bk B))];simp only[Td,DD (Gi _ _),C7]
theorem VM{kd o l k z h:Int}{xs:List Nat}{s:ByteArray}(a:If kd o l k z h xs s):(Dl kd o l k z h xs s).size<=91:=by
 rcases a with⟨rfl,_⟩|⟨rfl,a⟩
 ·rw[Ks]
  decide
 ·rw[Kt,enc_size]
  have b:=ID a.2.1;have c:=a.2.2.2;have d:=a.1.1.2.2;omega
theorem dC(kd o l k z h:Int)(a:Option Addr)(n c:Nat)(xs:List Nat)(s:ByteArray)(w:World)(f:RowAt w a n xs)(d:If kd o l k z h xs s):
  Calls Tryz.prog 143 #[F3 kd (.int .i64 o) (.int .i64 l) (.int .i64 k) (.int .i64 z) (.int .i64 h) (.slice a n c) (.string s)] w fun e w'=>e=.returned (.string (Dl kd o l k z h xs s))/\Below w.heap.size w w':=by
 rcases d with⟨rfl,_⟩|⟨rfl,d⟩
 ·rw[Mt,Ks]
  have j:=ZE;go_enter Tryz.func143,Tryz.ntmps143;go_wp2;go_ret;exact⟨rfl,Below.refl _ _⟩
 ·rw[Mu,Kt]
  have i:=Ab (VR o l k z h a n c xs s _ (Fh f (.cells #[.int .i64 o,.int .i64 l,.int .i64 k,.int .i64 z,.int .i64 h,.slice a n c,.string s] 233)) d);have g:=Ab (AN w (.cells #[.int .i64 o,.int .i64 l,.int .i64 k,.int .i64 z,.int .i64 h,.slice a n c,.string s] 233));generalize st (BF o l k z h xs (tx s))=T at*;have j:=MH;clear f d;go_enter Tryz.func143,Tryz.ntmps143;go_wp2_with fail;refine(Aa i).mono ?_;rintro e w1 ⟨rfl,b⟩;have B1:=Ab (Ad (Aa g) b);clear b;go_wp2;go_ret;exact⟨rfl,Aa B1⟩
theorem mq(kd fr ic o l k z h:Int)(a:Option Addr)(n c:Nat)(xs:List Nat)(s:ByteArray)(w:World)(ht:Tab w)(D:RowAt w a n xs)(O:n<=1048576)(y:KK kd fr ic o l k z h xs s):
  Calls Tryz.prog 82 #[.agg #[.int .i64 kd,.int .i64 fr,.int .i64 ic,.int .i64 o,.int .i64 l,.int .i64 k,.int .i64 z,.int .i64 h,.slice a n c,.string s]] w fun e w'=>e=.returned (.tuple #[.string (E1 kd fr ic o l k z h xs s),.int .i64 0])/\Below w.heap.size w w':=by
 have j:=Ab (AN w (.cells #[.int .i64 kd,.int .i64 fr,.int .i64 ic,.int .i64 o,.int .i64 l,.int .i64 k,.int .i64 z,.int .i64 h,.slice a n c,.string s] 78));have G:=Ab (eZ kd fr ic o l k z h a n c xs s _ (ht.below (Aa j)) (D.below (Aa j)) O 0 (.inl ⟨y,rfl⟩));have I:=Ab (YB w (.int .i64 kd) (.int .i64 fr) (.int .i64 ic) (.int .i64 o) (.int .i64 l) (.int .i64 k) (.int .i64 z) (.int .i64 h) (.slice a n c) (.string s));have H:=Ab (D.below (Aa j));have L:=Xd kd fr ic (Dl kd o l k z h xs s);have p1:=Kc kd;have p2:=Kc fr;have p3:=Oi ic;have p4:=VM y.2.2;have X:=Ab (fun w'=>Hq kd 1 w');have Y:=Ab (fun w'=>Hq fr 1 w');have Z:=Ab (fun w'=>Hq ic 4 w');have P4:=Ab (fun w' E=>dC kd o l k z h a n c xs s w' E y.2.2);have P5:=Ab (fun wx=>Oy kd (.int .i64 fr) (.int .i64 ic) (.int .i64 o) (.int .i64 l) (.int .i64 k) (.int .i64 z) (.int .i64 h) (.slice a n c) (.string s) wx);generalize F3 kd (.int .i64 o) (.int .i64 l) (.int .i64 k) (.int .i64 z) (.int .i64 h) (.slice a n c) (.string s)=V at*;unfold E1;rw[<-L];clear L;generalize Dl kd o l k z h xs s=t4 at*;generalize st (Bz kd 1)=u at*;generalize st (Bz fr 1)=v at*;generalize st (Bz ic 4)=t3 at*;have P6:=Ab (fun wx=>jM (u++v++t3++t4) wx (by simp only[ByteArray.size_append];omega));generalize CA (u++v++t3++t4)=T at*;have q2:(9223372036854775807<u.size+v.size)=False:=eq_false (by omega);have q3:(9223372036854775807<u.size+v.size+t3.size)=False:=eq_false (by omega);have q4:(9223372036854775807<u.size+v.size+t3.size+t4.size)=False:=eq_false (by omega);clear D y p1 p2 p3 p4 O ht;go_enter Tryz.func82,Tryz.ntmps82;go_wp2_with fail;refine(Aa G).mono ?_;rintro e w1 ⟨rfl,d⟩;have b:=Ab ((Aa I).below d);have m:=Ab ((Aa H).below d);have B1:=Ab (Ad (Aa j) d);clear d G j I H;have k0:=cell_regrown (Aa b).1.1;have k1:=cell_regrown (Aa b).1.2.1;have k2:=cell_regrown (Aa b).1.2.2;have c1:=Cr (W:=w1) (fun w' N=>Aa X w');have c2:=Cr (W:=w1) (fun w' N=>Aa Y w');have c3:=Cr (W:=w1) (fun w' N=>Aa Z w');go_wp2_with fail
 refine wp_region_quiet_below (by kernel_rfl) (by kernel_rfl) ?_
 repeat (with_reducible refine wpQuiet_step (fun K x=>?_);go_simp;first|(with_reducible refine x _ ?_;clear x K)|(apply Exists.intro;apply And.intro;(intro _;go_at_call 141;first|with_reducible exact c1 _ _|with_reducible exact c2 _ _|with_reducible exact c3 _ _);with_reducible refine x _ ?_;clear x K))
 refine wpQuiet_nil ?_;intro w2 g;obtain⟨⟨J,r⟩,g⟩:=g;have f:Below w1.heap.size w1 w2:=by rw[g];exact below_regrown _ J r
 clear g k0 k1 k2 c1 c2 c3 J r;have C:=Ab ((Aa b).below f);have A:=Ab ((Aa m).below f);have P:=Ab (Ad (Aa B1) f);clear f b m B1;obtain⟨⟨g0,g1,g2⟩,g3,g4,g5,g6,g7,g8,g9⟩:=Aa C;go_wp2_with fail;refine(Aa P5 _).mono ?_;rintro e w3 ⟨rfl,i⟩;have B:=Ab ((Aa A).below i);have Q:=Ab (Ad (Aa P) i);clear i g0 g1 g2 g3 g4 g5 g6 g7 g8 g9;go_wp2_with fail;refine(Aa P4 _ (Aa B)).mono ?_;rintro e w4 ⟨rfl,p⟩;have R:=Ab (Ad (Aa Q) p);clear p;go_wp2_with fail;refine(Aa P6 _).mono ?_;rintro e w5 ⟨rfl,q⟩;have S:=Ab (Ad (Aa R) q);clear q;go_wp2;go_ret2;exact⟨rfl,Aa S⟩
def Bm.ok(f:Bm):Prop:=KK f.kd f.fr f.ic f.p.o f.p.l f.p.k f.p.z f.p.h f.p.r.xs f.p.r.s
def Bm.enc(f:Bm):ByteArray:=E1 f.kd f.fr f.ic f.p.o f.p.l f.p.k f.p.z f.p.h f.p.r.xs f.p.r.s
theorem Bm.enc_size{f:Bm}(h:f.ok):f.enc.size<=1048576:=by
 have a:=VM h.2.2;unfold Bm.enc E1;rw[J3,Dz,NW,AQ];omega
theorem UE(f:Bm)(w:World)(ht:Tab w)(g:RowAt w f.p.r.a f.p.r.n f.p.r.xs)(d:f.p.r.n<=1048576)(b:f.ok):
  Calls Tryz.prog 82 #[f.val] w fun e w'=>e=.returned (.tuple #[.string f.enc,.int .i64 0])/\Below w.heap.size w w':=
 mq f.kd f.fr f.ic f.p.o f.p.l f.p.k f.p.z f.p.h f.p.r.a f.p.r.n f.p.r.c f.p.r.xs f.p.r.s w ht g d b
theorem kK(g gb gq c lo:Nat)(M q A:Int)(L:List ByteArray)(f:Bm)(w:World)(h:Au w g gb gq c M q A L lo)(ht:Tab w)(C:RowAt w f.p.r.a f.p.r.n f.p.r.xs)(B:f.p.r.n<=1048576)(m:f.ok)(K:L.length<capN q):
  Calls Tryz.prog 36 #[.pointer (some ⟨g,0,none⟩),f.val] w fun e w'=>e=.returned (.int .i64 0)/\Au w' g gb gq c M q A (L++[f.enc]) lo/\Tu (lkF g gb gq c) w w':=by
 have y:=Ab (fun wx (v:Tab wx) (u:RowAt wx f.p.r.a f.p.r.n f.p.r.xs)=>UE f wx v u B m);have G:=Ab (Bm.enc_size m);have I:=Ab ht;have E:=Ab C;have H:=Ab h;generalize f.enc=s at*;clear ht C B m h;simp only[Bm.val]at y⊢;go_enter Tryz.func36,Tryz.ntmps36
 go_wp2_with (first
  |(go_at_call 82;refine(Aa y _ ((Aa I).below (AN _ _)) ((Aa E).below (AN _ _))).mono ?_;rintro e w1 ⟨rfl,d⟩;have x:=Ab (Ad (AN _ _) d);clear d;have j:=Ab ((Aa H).below (Aa x));have c3:=(Aa j).blk.at 3 rfl)
  |(go_at_call 83;refine(lE _ _ _ _ _ _ _ (Aa j).qu (Aa G) K).mono ?_;rintro e w2 ⟨rfl,i,b⟩;have D:=Ab ((Aa j).que i b);have J:=Ab (Tu.after (Aa x) (ME (g:=g) (gb:=gb) b));clear i b)
  |fail)
 go_ret;exact⟨rfl,Aa D,Aa J⟩
theorem dz(g gb gq c lo:Nat)(M q B:Int)(L:List ByteArray)(f:Bm)(w:World)(h:Au w g gb gq c M q B L lo)(ht:Tab w)(D:RowAt w f.p.r.a f.p.r.n f.p.r.xs)(C:f.p.r.n<=1048576)(m:f.ok)(N:capN q<=L.length)(u:lo<=1099511627776):
  Calls Tryz.prog 36 #[.pointer (some ⟨g,0,none⟩),f.val] w fun e w'=>e=.returned (.int .i64 5)/\Au w' g gb gq c M q B L (lo+1)/\Tu (lkF g gb gq c) w w':=by
 have A:=Ab (fun wx (x:Tab wx) (v:RowAt wx f.p.r.a f.p.r.n f.p.r.xs)=>UE f wx x v C m);have I:=Ab (Bm.enc_size m);have J:=Ab ht;have G:=Ab D;have H:=Ab h;generalize f.enc=s at*;clear ht D C m h;simp only[Bm.val]at A⊢;go_enter Tryz.func36,Tryz.ntmps36
 go_wp2_with (first
  |(go_at_call 82;refine(Aa A _ ((Aa J).below (AN _ _)) ((Aa G).below (AN _ _))).mono ?_;rintro e w1 ⟨rfl,d⟩;have y:=Ab (Ad (AN _ _) d);clear d;have j:=Ab ((Aa H).below (Aa y));have c3:=(Aa j).blk.at 3 rfl)
  |(go_at_call 83;refine(oT _ _ _ _ _ _ _ (Aa j).qu (Aa I) N u).mono ?_;rintro e w2 ⟨rfl,i,b⟩;have E:=Ab ((Aa j).que i b);have K:=Ab (Tu.after (Aa y) (ME (g:=g) (gb:=gb) b));clear i b)
  |fail)
 go_ret;exact⟨rfl,Aa E,Aa K⟩
theorem gM(g gb gq c lo:Nat)(M q d n:Int)(L:List ByteArray)(w:World)(h:Au w g gb gq c M q d L lo):
  Calls Tryz.prog 37 #[.pointer (some ⟨g,0,none⟩),.int .i64 n] w fun e w'=>e=.returned (.tuple #[])/\Au w' g gb gq c M q (GV M (1000*Bq q 1 256) d n) L lo/\Tu (lkF g gb gq c) w w':=by
 have c2:=h.blk.at 2 rfl;have H:=Ab h;have i:=Ab (fa gb M (1000*Bq q 1 256) d n w h.bt);generalize GV M (1000*Bq q 1 256) d n=Z at*;clear h;go_enter Tryz.func37,Tryz.ntmps37
 go_wp2_with (first
  |(go_at_call 84;refine(Aa i).mono ?_;rintro e w2 ⟨rfl,b,a⟩;have f:=Ab ((Aa H).lev b a);have j:=Ab (P9 (g:=g) (gq:=gq) (c:=c) a);clear b a)
  |fail)
 go_end0;exact⟨rfl,Aa f,Aa j⟩
theorem bX(g gb gq c lo k:Nat)(M q b:Int)(L:List ByteArray)(w:World)(h:Au w g gb gq c M q b L lo)(d:L.length=k):
  Calls Tryz.prog 87 #[.pointer (some ⟨g,0,none⟩)] w fun e w'=>e=.returned (.int .i64 (k:Int))/\w'=w:=by
 subst d;have c3:=h.blk.at 3 rfl;have H:=Ab h;clear h;go_enter Tryz.func87,Tryz.ntmps87
 go_wp2_with (first
  |(go_at_call 146;refine(Lt _ _ _ _ _ _ (Aa H).qu).mono ?_;rintro e w1 ⟨rfl,a⟩;obtain rfl:=a.symm;clear a)
  |fail)
 go_ret;exact⟨rfl,rfl⟩
theorem bW(g gb gq c lo:Nat)(M q b:Int)(w:World)(h:Au w g gb gq c M q b [] lo):
  Calls Tryz.prog 112 #[.pointer (some ⟨g,0,none⟩)] w fun e w'=>e=.returned (.bool false)/\w'=w:=by
 have c3:=h.blk.at 3 rfl;have H:=Ab h;clear h;go_enter Tryz.func112,Tryz.ntmps112
 go_wp2_with (first
  |(go_at_call 146;refine(Lt _ _ _ _ _ _ (Aa H).qu).mono ?_;rintro e w1 ⟨rfl,a⟩;obtain rfl:=a.symm;clear a)
  |fail)
 go_ret;exact⟨rfl,rfl⟩
theorem gK(g gb gq c lo:Nat)(M q b:Int)(L:List ByteArray)(w:World)(h:Au w g gb gq c M q b L lo)(i:0<L.length)(f:b<1000):
  Calls Tryz.prog 112 #[.pointer (some ⟨g,0,none⟩)] w fun e w'=>e=.returned (.bool false)/\w'=w:=by
 have c2:=h.blk.at 2 rfl;have c3:=h.blk.at 3 rfl;have H:=Ab h;have j:(L.length:Int)>0:=by omega
 have d:=Ab (Lt _ _ _ _ _ _ h.qu);generalize L.length=n at*;clear h;go_enter Tryz.func112,Tryz.ntmps112
 go_wp2_with (first
  |(go_at_call 146;refine(Aa d).mono ?_;rintro e w1 ⟨rfl,a⟩;obtain rfl:=a.symm;clear a)
  |(go_at_call 167;refine(kx _ _ _ _ _ (Aa H).bt f).mono ?_;rintro e w1 ⟨rfl,a⟩;obtain rfl:=a.symm;clear a)
  |fail)
 go_ret;exact⟨rfl,rfl⟩
theorem dy(g gb gq c lo:Nat)(M q f:Int)(L:List ByteArray)(w:World)(h:Au w g gb gq c M q f L lo)(v:0<L.length)(u:1000<=f):
  Calls Tryz.prog 112 #[.pointer (some ⟨g,0,none⟩)] w fun e w'=>e=.returned (.bool true)/\Au w' g gb gq c M q (f-1000) L lo/\Tu (lkF g gb gq c) w w':=by
 have c2:=h.blk.at 2 rfl;have c3:=h.blk.at 3 rfl;have H:=Ab h;have x:(L.length:Int)>0:=by omega
 have j:=Ab (Lt _ _ _ _ _ _ h.qu);have p:=Ab (fun wx r ht=>h.lev (w':=wx) (Lv':=f-1000) r ht);generalize L.length=n at*;clear h;go_enter Tryz.func112,Tryz.ntmps112
 go_wp2_with (first
  |(go_at_call 146;refine(Aa j).mono ?_;rintro e w1 ⟨rfl,d⟩;obtain rfl:=d.symm;clear d)
  |(go_at_call 167;refine(gj _ _ _ _ _ (Aa H).bt u).mono ?_;rintro e w2 ⟨rfl,b,a⟩;have i:=Ab (Aa p _ b a);have m:=Ab (P9 (g:=g) (gq:=gq) (c:=c) a);clear b a)
  |fail)
 go_ret;exact⟨rfl,Aa i,Aa m⟩
end Go.Proofs.YtfpfcnfmigaphaaGreatDoor
