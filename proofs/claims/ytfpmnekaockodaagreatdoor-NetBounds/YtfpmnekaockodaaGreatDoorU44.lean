/- Laws for the proof. -/
import Derived.Test.YtfpmnekaockodaaGreatDoorU43
namespace Go.Proofs.YtfpmnekaockodaaGreatDoor
open Go.RowKit Go.Sort
set_option linter.all false
set_option maxRecDepth 4000
set_option maxHeartbeats 8000000
variable {n:Ao}{x:BB}{i N k k' q B:Nat}{P:Nat->Bq}{w w0 w':World}
structure Fj(p:Bq)(i N k:Nat)(n:Ao):Prop where
 id:n.id=i
 p:n.p=p
 src:∀r,n.src=some r->Cm n.id r
 fr:CJ n
 tm:n.t<=k
 rate:n.p.rate<18446744073709551616
 tos:∀j,j<n.p.tos.length->0<=n.p.tos.getD j 0/\n.p.tos.getD j 0<N
def GG(N:Nat)(f:AH):Prop:=(0<=f.dst/\f.dst<N)/\0<f.s.size/\f.s.size<=1048576
structure Ia(P:Nat->Bq)(T:AF)(k:Nat):Prop where
 node:∀i x,T.ns[i]? =some x->Fj (P i) i T.ns.length k x.n
 fly:∀f∈T.fs,GG T.ns.length f
theorem Fj.more{p:Bq}(h:Fj p i N k n)(a:k<=k'):Fj p i N k' n:=⟨h.id,h.p,h.src,h.fr,Nat.le_trans h.tm a,h.rate,h.tos⟩
theorem Fj.each{p:Bq}{u:AJ->Int×List ByteArray×Nat}(h:Fj p i N k n)(a:CJ (n.each u)):Fj p i N (k+1) (n.each u):=⟨h.id,h.p,h.src,a,Nat.succ_le_succ h.tm,h.rate,h.tos⟩
theorem G8.pos{id:Nat}{kd:Int}{s:ByteArray}(h:G8 id kd s):0<s.size:=by
 obtain⟨f,a,_,rfl,_⟩:=h;show 0<(Fz _ _ _ _ _ _ _ _ _ _).size;unfold Fz;rw[KF];omega
theorem Fj.fly{p:Bq}(h:Fj p i N k n)(e:n.s.ls.length=n.p.tos.length):∀f∈flyTo n n.s.ls.length,GG N f:=fun f c=>by
 obtain⟨_,a,j,d,b⟩:=W4 h.fr _ (Nat.le_refl _) f c;exact⟨b▸h.tos j (by omega),a.pos,a.size⟩
theorem Ia.more{T:AF}(h:Ia P T k)(a:k<=k'):Ia P T k':=⟨fun i x b=>(h.node i x b).more a,h.fly⟩
theorem Ia.set{T:AF}{wv:Value}{fs:List AH}{now:Int}(h:Ia P T k)(d:k<=k')(m:T.ns[i]? =some x)(l:Fj (P i) i T.ns.length k' n)(c:∀f∈fs,GG T.ns.length f):Ia P ⟨T.nv,T.ns.set i ⟨x.g,n⟩,now,wv,fs⟩ k':=by
 have b:(T.ns.set i ⟨x.g,n⟩).length=T.ns.length:=List.length_set;refine⟨fun j y a=>?_,fun f e=>?_⟩
 ·show Fj (P j) j (T.ns.set i _).length k' y.n
  rw[b];rcases L5 m a with⟨rfl,rfl⟩|⟨o,a⟩
  ·exact l
  ·exact(h.node j y a).more d
 ·show GG (T.ns.set i _).length f
  rw[b];exact c f e
theorem rX{fs us:List AH}(b:∀f∈fs,GG N f)(c:∀f∈us,GG N f):∀f∈onto fs us,GG N f:=fun f d=>by
 rcases List.mem_append.1 d with a|a
 ·exact b f a
 ·exact c f (List.mem_of_mem_take a)
theorem AB.wayT{T:AF}(h:AB w q B T):∀j,F6 q T j->Lx q T j:=fun j a=>a.imp id fun e=>.inr (.inl e)
theorem pU{T:AF}(b:T.ns[i]? =some x):∀j,Bg x.g x.n j->Lx q T j:=fun j a=>.inr (.inr (.inr ⟨i,x,b,a⟩))
theorem AB.tabs{T:AF}(h:AB w q B T){w0:World}(ht:∀wx,Below B w0 wx->Bt wx)(a:Below B w0 w)(wx:World)(b:Below B w wx):Bt wx:=ht wx (a.trans b)
theorem AB.lowB{T:AF}(h:AB w q B T)(a:Below B w0 w)(ht:Tu (Lx q T) w w'):Below B w0 w':=
 a.trans (ht.below (Nat.le_trans h.lo (Nat.le_of_lt h.blk.lt)) fun j c b=>by have:=h.low j b;omega)
def evC(kd nd n at_ by_:Int)(v:Value):List Value:=[.int .i64 kd,.int .i64 nd,.int .i64 n,.int .i64 at_,.int .i64 by_,v]
theorem Ub(q B:Nat)(T:AF)(kd id n a b:Int)(v:Value)(w:World)(h:AB w q B T)(c:¬(0<=id/\id<T.ns.length)):
  Calls Tryz.prog 28 #[.pointer (some ⟨q,0,none⟩),.agg #[.int .i64 kd,.int .i64 id,.int .i64 n,.int .i64 a,.int .i64 b,v]] w fun e w'=>e=.returned (.bool false)/\Below w.heap.size w w':=by
 have g:=Ab (Ax w (.cells (evC kd id n a b v).toArray 42));have l:=Ab (AN 42 w (evC kd id n a b v));have j:=Ab (Mi q B T id _ (h.below (Ax w (.cells (evC kd id n a b v).toArray 42))));have o:=(Aa l).at 1 rfl;have m:=Ab c;clear h c;simp only[evC]at g l j o;go_enter Tryz.func28,Tryz.ntmps28
 go_wp2_with (first
  |(go_at_call 30;refine(Aa j).mono ?_;rintro e w1 ⟨⟨rfl,f⟩|⟨rfl, -⟩,d⟩;(exact absurd f (Aa m));(obtain rfl:=d.symm;clear d))
  |fail)
 go_ret;exact⟨rfl,Aa g⟩
def AF.setN(T:AF)(i g:Nat)(n:Ao):AF:=⟨T.nv,T.ns.set i ⟨g,n⟩,T.now,T.wv,T.fs⟩
def AF.fly(T:AF)(v:Value)(fs:List AH):AF:=⟨T.nv,T.ns,T.now,v,fs⟩
theorem W9{T:AF}(a:T.ns[i]? =some x)(n:Ao):(T.setN i x.g n).ns[i]? =some ⟨x.g,n⟩:=by
 show(T.ns.set i _)[i]? =_;rw[List.getElem?_set,if_pos rfl,if_pos (List.getElem?_eq_some_iff.1 a).1]
theorem KR(T:AF)(i g:Nat)(n:Ao):(T.setN i g n).ns.length=T.ns.length:=List.length_set
theorem Wz(T:AF)(i g:Nat)(n m:Ao):(T.setN i g n).setN i g m=T.setN i g m:=by
 unfold AF.setN;simp only[List.set_set]
structure AS(w0 w:World)(q:Nat)(P:Nat->Bq)(T:AF)(k:Nat):Prop where
 net:AB w q w0.heap.size T
 inv:Ia P T k
 low:Below w0.heap.size w0 w
theorem AS.tabs{T:AF}(h:AS w0 w q P T k)(ht:Bt w0):∀wx,Below w0.heap.size w wx->Bt wx:=fun wx a=>ht.below (h.low.trans a)
theorem AS.below{T:AF}(h:AS w0 w q P T k)(a:Below w.heap.size w w'):AS w0 w' q P T k:=⟨h.net.below a,h.inv,Ad h.low a⟩
theorem AS.more{T:AF}(h:AS w0 w q P T k)(a:k<=k'):AS w0 w q P T k':=⟨h.net,h.inv.more a,h.low⟩
theorem AS.set{T:AF}(h:AS w0 w q P T k)(a:T.ns[i]? =some x)(c:Al w' x.g w0.heap.size n)(ht:Tu (Bg x.g x.n) w w')(d:∀j,j<w.heap.size->Bg x.g n j->Bg x.g x.n j)(b:Fj (P i) i T.ns.length (k+1) n):AS w0 w' q P (T.setN i x.g n) (k+1):=
 ⟨h.net.node a c ht d,h.inv.set (Nat.le_succ k) a b h.inv.fly,h.net.lowB h.low (ht.wide (pU (q:=q) a))⟩
def E7(n:Ao)(f:Bp):Ao:=n.each (F2 n.p.queue f.enc)
theorem Zx{T:AF}(h:AS w0 w q P T k)(ht:Bt w0)(b:T.ns[i]? =some x)(u:k<=1000000){c:Option Addr}{dn:Nat}(dc:Nat){L:List Nat}(r:RowAt w c dn L)(d:dn<=1048576)(now:Int):
  Calls Tryz.prog 50 #[.pointer (some ⟨x.g,0,none⟩),.slice c dn dc,.int .i64 now] w fun e w'=>e=.returned (.tuple #[])/\∃f:Bp,Fi x.n L f/\AS w0 w' q P (T.setN i x.g (E7 x.n f)) (k+1):=by
 have X:=h.inv.node i x b;have N:=h.net.each i x b;have a:x.n.id<=7:=by rw[X.id];have:=(List.getElem?_eq_some_iff.1 b).1;have:=h.net.few.1;omega
 refine(lF x.g w0.heap.size x.n c dn dc L now w N (h.tabs ht) X.src a r d (by have:=X.tm;omega)).mono ?_;rintro e w' ⟨rfl,f,o,p,m,l⟩;exact⟨rfl,f,o,h.set b p m (fun j _ s=>Qb j s) (X.each (X.fr.act (Yo N a X.src o l)))⟩
theorem pX{T:AF}(h:AS w0 w q P T k)(b:T.ns[i]? =some x)(d:Int):
  Calls Tryz.prog 47 #[.pointer (some ⟨x.g,0,none⟩),.int .i64 d] w fun e w'=>e=.returned (.tuple #[])/\AS w0 w' q P (T.setN i x.g (x.n.each (IH x.n.p.M x.n.p.queue d))) (k+1):=by
 have X:=h.inv.node i x b;refine(jO x.g w0.heap.size x.n d w (h.net.each i x b)).mono ?_;rintro e w' ⟨rfl,c,a⟩;exact⟨rfl,h.set b c a (fun j _ f=>Qb j f) (X.each X.fr.tick)⟩
theorem U6{T:AF}(h:AS w0 w q P T k)(b:T.ns[i]? =some x):
  Calls Tryz.prog 49 #[.pointer (some ⟨x.g,0,none⟩)] w fun e w'=> ∃v,e=.returned v/\Ap w' w.heap.size v (flyTo x.n x.n.s.ls.length)/\(flyTo x.n x.n.s.ls.length).length<=4096/\(∀f∈flyTo x.n x.n.s.ls.length,GG T.ns.length f)/\AS w0 w' q P (T.setN i x.g (x.n.each Cx)) (k+1):=by
 have X:=h.inv.node i x b;have N:=h.net.each i x b;refine(jM x.g w0.heap.size x.n w N).mono ?_;rintro e w' ⟨v,rfl,m,c,a⟩;refine⟨v,rfl,m,?_,X.fly N.num.2.1,h.set b c a (fun j _ l=>Qb j l) (X.each X.fr.pump)⟩;have o:x.n.s.ls.length<=8:=by have:=N.num;omega
 exact Nat.le_trans (OG fun i d=>N.fly d) (by omega)
theorem Pt{b:Nat}{T:AF}{v:Value}{us:List AH}(h:AS w0 w q P T k)(l:Ap w b v us)(g:us.length<=4096)(d:∀f∈us,GG T.ns.length f):
  Calls Tryz.prog 48 #[.pointer (some ⟨q,0,none⟩),v] w fun e w'=>e=.returned (.tuple #[])/\∃wv,AS w0 w' q P (T.fly wv (onto T.fs us)) k:=
 (iL q w0.heap.size b T v us w h.net l g).mono fun e w' ⟨c,wv,j,a⟩=>
  ⟨c,wv,j,⟨fun i x m=>h.inv.node i x m,rX h.inv.fly d⟩,h.net.lowB h.low (a.wide h.net.wayT)⟩
theorem U7{T:AF}(h:AS w0 w q P T k)(d:i<T.fs.length):
  Calls Tryz.prog 53 #[.pointer (some ⟨q,0,none⟩),.int .i64 (i:Int)] w fun e w'=>e=.returned (.tuple #[])/\∃wv,AS w0 w' q P (T.fly wv (T.fs.eraseIdx i)) k/\Tu (F6 q T) w w':=
 (iM q w0.heap.size i T w h.net d).mono fun e w' ⟨b,wv,g,a⟩=>
  ⟨b,wv,⟨g,⟨fun i x j=>h.inv.node i x j,fun f c=>h.inv.fly f (List.mem_of_mem_eraseIdx c)⟩,h.net.lowB h.low (a.wide h.net.wayT)⟩,a⟩
theorem pW{T:AF}(h:AS w0 w q P T k)(ht:Bt w0)(f:T.ns[i]? =some x)(u:k<=1000000)(s:ByteArray)(r:s.size<=1048576)(now:Int):
  Calls Tryz.prog 54 #[.pointer (some ⟨x.g,0,none⟩),.string s,.int .i64 now] w fun e w'=> ∃(en:Nat) (n:Ao),e=.returned (.int .i64 (en:Int))/\Hr x.n s now en n/\AS w0 w' q P (T.setN i x.g n) (k+1)/\Tu (Bg x.g x.n) w w':=by
 have X:=h.inv.node i x f;have N:=h.net.each i x f;refine(jN x.g w0.heap.size x.n s now w N (h.tabs ht) r (by have:=X.tm;omega)).mono ?_;rintro e w' ⟨en,n,rfl,c,o,a,d⟩;obtain⟨l,j,b,m⟩:=X.fr.recv c;exact⟨en,n,rfl,c,h.set f o a d ⟨j.trans X.id,b.trans X.p,by rw[m,j];exact X.src,l,Nat.le_trans (ZK c) (Nat.succ_le_succ X.tm),by rw[b];exact X.rate,by rw[b];exact X.tos⟩,a⟩
theorem mi{T:AF}(h:AS w0 w q P T k)(d:T.ns[i]? =some x):
  Calls Tryz.prog 51 #[.pointer (some ⟨x.g,0,none⟩)] w fun e w'=>e=.returned (.tuple #[])/\∃s:A0,Hw x.n.p s/\AS w0 w' q P (T.setN i x.g ⟨x.n.id,(x.n.inc+1)%4294967296,x.n.p,x.n.src,s,x.n.t+1⟩) (k+1):=by
 have X:=h.inv.node i x d;have N:=h.net.each i x d;refine(fO x.g w0.heap.size x.n w N X.rate).mono ?_;rintro e w' ⟨rfl,s,l,f,c,b⟩;refine⟨rfl,s,f,h.set d l (c.wide fun j e=>.inl e) (fun j m a=>?_) ⟨X.id,X.p,X.src,CJ.new f,Nat.succ_le_succ X.tm,X.rate,X.tos⟩⟩;rcases a with a|a|a|a
 ·exact .inl a
 ·exact .inr (.inl a)
 ·exact .inr (.inr (.inl a))
 ·have:=b j a
  omega
theorem I8{a:World}(h:Below B a w)(n:Nat):Below B a (w.drewN n):=h.trans ⟨rfl,rfl,rfl,Nat.le_refl _,fun _ _=>rfl⟩
def NA(T:AF)(i:Nat)(x:BB)(f:Bp)(wv:Value):AF:=(T.setN i x.g ((E7 x.n f).each Cx)).fly wv (onto T.fs (flyTo (E7 x.n f) x.n.s.ls.length))
theorem mg{T:AF}(h:AS w0 w q P T k)(ht:Bt w0)(C:T.ns[i]? =some x)(hk:k<=1000000){l:Option Addr}{dn:Nat}(dc:Nat){L:List Nat}(S:RowAt w l dn L)(H:dn<=1048576)(n a b:Int):
  Calls Tryz.prog 28 #[.pointer (some ⟨q,0,none⟩),.agg #[.int .i64 2,.int .i64 (i:Int),.int .i64 n,.int .i64 a,.int .i64 b,.slice l dn dc]] w fun e w'=>e=.returned (.bool true)/\∃(f:Bp) (wv:Value),Fi x.n L f/\AS w0 w' q P (NA T i x f wv) (k+2):=by
 have aa:=(List.getElem?_eq_some_iff.1 C).1;have h8:=h.net.few.1;have d:=Ax w (.cells (evC 2 i n a b (.slice l dn dc)).toArray 42);have A:=Ab (AN 42 w (evC 2 i n a b (.slice l dn dc)));have m:=h.below d;have Q:=Ab (Mi q w0.heap.size T (i:Int) _ m.net);have e0:=(Aa A).at 0 rfl;have e1:=(Aa A).at 1 rfl;have e5:=(Aa A).at 5 rfl;obtain⟨g,c,Y,hc⟩:=m.net.cell C;have c0:=m.net.blk.at 0 rfl;rw[Y]at c0;have c1:=m.net.blk.at 1 rfl;have O:=Ab (fun wx (R:Below (w.alloc (.cells (evC 2 i n a b (.slice l dn dc)).toArray 42)).heap.size (w.alloc (.cells (evC 2 i n a b (.slice l dn dc)).toArray 42)) wx)=>Zx (m.below R) ht C hk dc ((S.below d).below R) H T.now);have HI:=Ab (show 0<=(i:Int)/\(i:Int)<T.ns.length by omega);have X:(i:Int)<(T.ns.length:Int):=by omega
 clear h ht S m Y d;simp only[evC]at A Q e0 e1 e5 c0 c1 hc O;go_enter Tryz.func28,Tryz.ntmps28
 go_wp2_with (first
  |(go_at_call 30;refine(Aa Q).mono ?_;rintro e w1 ⟨⟨rfl, -⟩|⟨rfl,J⟩,z⟩;(rotate_left;exact absurd (Aa HI) J);obtain rfl:=z.symm;clear z)
  |fail)
 go_quiet (fail);go_wp2_with fail
 go_region_with (first
  |(go_at_call 50;refine(Aa O _ (by first|exact I8 (Below.refl _ _) _|exact(Below.refl _ _).drew)).mono ?_;rintro e w2 ⟨rfl,f,V,W⟩;have Z:=Ab V;have HJ:=Ab W;clear V W)
  |fail)
 all_goals (have K:=W9 C (E7 x.n f))
 all_goals (have I:(E7 x.n f).s.ls.length=x.n.s.ls.length:=Fo)
 all_goals go_wp2_with (first
  |(go_at_call 49;refine(U6 (Aa HJ) K).mono ?_;rintro e w3 ⟨v,rfl,y,u,o,p⟩;have j:=Ab (And.intro y (And.intro u o));have D:=Ab p;clear y u o p)
  |(go_at_call 48;refine(Pt (Aa D) (Aa j).1 (Aa j).2.1 (by rw[KR];exact(Aa j).2.2)).mono ?_;rintro e w4 ⟨rfl,wv,r⟩;have E:=Ab r;clear r)
  |fail)
 all_goals go_ret
 all_goals (refine⟨rfl,f,wv,Aa Z,?_⟩;have:=Aa E;rw[Wz,I]at this;exact this)
theorem fS{T:AF}(h:AS w0 w q P T k)(o:T.ns[i]? =some x)(n a b:Int)(v:Value):
  Calls Tryz.prog 28 #[.pointer (some ⟨q,0,none⟩),.agg #[.int .i64 7,.int .i64 (i:Int),.int .i64 n,.int .i64 a,.int .i64 b,v]] w fun e w'=>e=.returned (.bool true)/\∃s:A0,Hw x.n.p s/\AS w0 w' q P (T.setN i x.g ⟨x.n.id,(x.n.inc+1)%4294967296,x.n.p,x.n.src,s,x.n.t+1⟩) (k+1):=by
 have O:=(List.getElem?_eq_some_iff.1 o).1;have Q:=h.net.few.1;have d:=Ax w (.cells (evC 7 i n a b v).toArray 42);have l:=Ab (AN 42 w (evC 7 i n a b v));have f:=h.below d;have u:=Ab (Mi q w0.heap.size T (i:Int) _ f.net);have I:=(Aa l).at 0 rfl;have J:=(Aa l).at 1 rfl;obtain⟨g,c,C,L⟩:=f.net.cell o;have c0:=f.net.blk.at 0 rfl;rw[C]at c0;have r:=Ab (fun wx (K:Below (w.alloc (.cells (evC 7 i n a b v).toArray 42)).heap.size (w.alloc (.cells (evC 7 i n a b v).toArray 42)) wx)=>mi (f.below K) o);have D:=Ab (show 0<=(i:Int)/\(i:Int)<T.ns.length by omega);have z:(i:Int)<(T.ns.length:Int):=by omega
 clear h f C d;simp only[evC]at l u I J c0 L r;go_enter Tryz.func28,Tryz.ntmps28
 go_wp2_with (first
  |(go_at_call 30;refine(Aa u).mono ?_;rintro e w1 ⟨⟨rfl, -⟩|⟨rfl,m⟩,j⟩;(rotate_left;exact absurd (Aa D) m);obtain rfl:=j.symm;clear j)
  |fail)
 go_quiet (fail)
 go_wp2_with (first
  |(go_at_call 51;refine(Aa r _ (by first|exact I8 (Below.refl _ _) _|exact(Below.refl _ _).drew)).mono ?_;rintro e w2 ⟨rfl,s,A,y⟩;have H:=Ab A;have E:=Ab y;clear A y)
  |fail)
 go_ret;exact⟨rfl,s,Aa H,Aa E⟩
def BX(d:Int)(n:Ao):Ao:=n.each (IH n.p.M n.p.queue d)
def EK(d:Int)(ns:List BB):Nat->List AH->List BB×List AH
 |0,fs=>(ns,fs)
 |k+1,fs=>match ns[k]? with
  |some x=>((EK d ns k fs).1.set k ⟨x.g,(BX d x.n).each Cx⟩,onto (EK d ns k fs).2 (flyTo (BX d x.n) x.n.s.ls.length))
  |none=>EK d ns k fs
theorem Pk(d:Int)(ns:List BB):∀k fs,(EK d ns k fs).1.length=ns.length
 |0,fs=>rfl
 |k+1,fs=>by
  unfold EK;split
  ·show(List.set _ _ _).length=_
   rw[List.length_set,Pk d ns k fs]
  ·exact Pk d ns k fs
theorem PW(d:Int)(ns:List BB):∀k fs j,k<=j->(EK d ns k fs).1[j]? =ns[j]?
 |0,fs,j,_=>rfl
 |k+1,fs,j,a=>by
  unfold EK;split
  ·show(List.set _ _ _)[j]? =_
   rw[List.getElem?_set,if_neg (by omega),PW d ns k fs j (by omega)]
  ·exact PW d ns k fs j (by omega)
def FW(T:AF)(d:Int)(k:Nat)(wv:Value):AF:=⟨T.nv,(EK d T.ns k T.fs).1,min (T.now+d) 1099511627776,wv,(EK d T.ns k T.fs).2⟩
theorem jr{T:AF}{d:Int}(a:T.ns[k]? =some x)(v wv:Value):((((FW T d k v).setN k x.g (BX d x.n)).setN k x.g ((BX d x.n).each Cx)).fly wv (onto (((FW T d k v).setN k x.g (BX d x.n)).setN k x.g ((BX d x.n).each Cx)).fs (flyTo (BX d x.n) (BX d x.n).s.ls.length)))=FW T d (k+1) wv:=by
 rw[Wz,show(BX d x.n).s.ls.length=x.n.s.ls.length from Fo];unfold FW AF.fly AF.setN
 conv=>rhs;unfold EK
 rw[a]
theorem iN{T:AF}(h:AS w0 w q P T k)(d:Int)(hd:0<=d/\d<=1048576):
  Calls Tryz.prog 27 #[.pointer (some ⟨q,0,none⟩),.int .i64 d] w fun e w'=>e=.returned (.tuple #[])/\∃wv,AS w0 w' q P (FW T d T.ns.length wv) (k+2*T.ns.length):=by
 have c1:=h.net.blk.at 1 rfl;have f1:=h.net.blk.frz 1;have C:=h.net.now0;have ac:IntKind.i64.wrap (T.now+d)=T.now+d:=by rw[IntKind.wrap_i64];omega
 have ab:=Iy (T.now+d) 1099511627776;have y:=h.net.blk.set 1 (.int .i64 (min (T.now+d) 1099511627776))
 have f:Hid (AS w0 (w.setCell ⟨q,1,none⟩ (.int .i64 (min (T.now+d) 1099511627776))) q P (FW T d 0 T.wv) (k+2*0)):=Ab (by
  have E:=Be w q 1 (.int .i64 (min (T.now+d) 1099511627776));have H:Tu (F6 q T) w _:=E.wide fun j e=>.inl e;refine⟨h.net.way H y (CO h.net.fly E fun j J e=>?_) h.net.few.2 (by omega),⟨fun i x I=>h.inv.node i x I,h.inv.fly⟩,h.net.lowB h.low (H.wide h.net.wayT)⟩;have:=Bu h.net.fly J;have:=h.net.blk.kd;subst e;omega)
 obtain⟨av,cv,p⟩:∃a c,T.nv=.slice a T.ns.length c:=by
  rcases h.net.own.2 with⟨e,h0⟩|⟨g,cap,aa,e,_⟩
  ·exact⟨none,0,by rw[e,h0]⟩
  ·exact⟨_,_,e⟩
 have n0:=(Aa f).net.blk.at 0 (show _=some (Value.slice av T.ns.length cv) from by rw[<-p];rfl);have h8:=h.net.few.1;have Y:=Ab p;clear h y C p;go_enter Tryz.func27,Tryz.ntmps27;go_wp2_with fail;go_loopw [21] (fun i wr=> ∃(m:Nat) (wv:Value),m<=T.ns.length/\i=.int .i64 m/\Hid (AS w0 wr q P (FW T d m wv) (k+2*m))) (fun i _=>T.ns.length-(intOf i).toNat)
 case atStart=>exact⟨0,T.wv,Nat.zero_le _,rfl,f⟩
 case round=>
  obtain⟨m,wv,hm,rfl,K⟩:=hrel;clear f n0;by_cases A:m<T.ns.length
  ·have W:(m:Int)<(T.ns.length:Int):=by omega
   obtain⟨x,I⟩:∃x,T.ns[m]? =some x:=⟨_,List.getElem?_eq_getElem A⟩;have b:(FW T d m wv).ns[m]? =some x:=(PW d T.ns m T.fs m (Nat.le_refl _)).trans I;obtain⟨g,c,p,hc⟩:=(Aa K).net.cell b;have o:T.nv=.slice (some ⟨g,0,none⟩) (FW T d m wv).ns.length c:=p;rw[Aa Y]at o;simp only[Value.slice.injEq]at o;obtain⟨rfl, -,rfl⟩:=o;have Z:=Ab I;have S:=Ab b;have X:=W9 b (BX d x.n);have R:=Ab X;clear I b p X
   go_wp2_with (first
    |(go_at_call 47;refine(pX (Aa K) (Aa S) d).mono ?_;rintro e w2 ⟨rfl,J⟩;have L:=Ab (show AS w0 w2 q P ((FW T d m wv).setN m x.g (BX d x.n)) (k+2*m+1) from J);clear J)
    |(go_at_call 49;refine(U6 (Aa L) (Aa R)).mono ?_;rintro e w3 ⟨v,rfl,D,z,r,s⟩;have l:=Ab (And.intro D (And.intro z r));have O:=Ab s;clear D z r s)
    |(go_at_call 48;refine(Pt (Aa O) (Aa l).1 (Aa l).2.1 (by rw[KR];exact(Aa l).2.2)).mono ?_;rintro e w4 ⟨rfl,V,u⟩;have Q:=Ab u;clear u)
    |fail)
   go_roundw
   case rel=>
    refine⟨m+1,V,A,by go_num,Ab ?_⟩;have:=Aa Q;rw[jr (Aa Z)]at this;exact this.more (by omega)
   case measure=>simp[intOf];omega
  ·obtain rfl:m=T.ns.length:=by omega
   go_wp2;go_end0;exact⟨rfl,wv,Aa K⟩
def Ih(s:ByteArray)(a b:Int):ByteArray:=st ((tx s).set (modZ a s.size).toNat ((tx s).getD (modZ a s.size).toNat 0^^^(b%256).toNat))
theorem jb(s:ByteArray)(a b:Int):(Ih s a b).size=s.size:=by rw[Ih,Dw,List.length_set,AU]
theorem fQ(s:ByteArray)(a b:Int)(w:World)(W:0<s.size)(X:s.size<=1048576):
  Calls Tryz.prog 55 #[.string s,.int .i64 a,.int .i64 b] w fun e w'=>e=.returned (.string (Ih s a b))/\Below w.heap.size w w':=by
 have R:=WY (n:=a) (m:=(s.size:Int)) (by omega);have z:=Ab (fun wx=>Ua a (s.size:Int) wx (by omega));obtain⟨w1,cap,L,r,C⟩:=gW w s;have c:=AU s;obtain⟨k,o⟩:∃k:Nat,modZ a s.size=(k:Int):=⟨(modZ a s.size).toNat,by omega⟩;have Q:k<s.size:=by omega
 have H:(k:Int)<(s.size:Int):=by omega
 obtain⟨y,v⟩:∃y:Nat,b%256=(y:Int):=⟨(b%256).toNat,by omega⟩;have g:y<256:=by omega
 have V:IntKind.u8.wrap b=(y:Int):=by rw[IntKind.wrap_u8',v]
 have d:=r;rw[<-c]at d;obtain⟨g',A,I,l,_,D,E⟩:=d.at (by omega);simp only[Value.slice.injEq,Option.some.injEq,Addr.mk.injEq,and_true,true_and]at I;obtain⟨rfl,rfl⟩:=I;have j:=D k (by omega);have O:=E k (by omega);have u:=r.1.get k;have f:=d.stored k ((tx s).getD k 0^^^y) (PK u g);rw[c]at f;have T:bits .xor .u8 (((tx s).getD k 0:Nat):Int) (y:Int)=(((tx s).getD k 0^^^y:Nat):Int):=u8_xor_nat _ y u g;have J:=Ab (C.setCell (p:=⟨w.heap.size,k,none⟩) (Nat.le_refl _) (.int .u8 (((tx s).getD k 0^^^y:Nat):Int)));have S:=f.text;have K:=Ab (show st ((tx s).set k ((tx s).getD k 0^^^y))=Ih s a b from by unfold Ih;rw[o,v];rfl);rw[o]at z;clear r d D E u f C c l R o v g;generalize st ((tx s).set k ((tx s).getD k 0^^^y))=Z at*;generalize (tx s).getD k 0^^^y=Y at*;generalize (tx s).getD k 0=x at*;go_enter Tryz.func55,Tryz.ntmps55
 go_wp2_with (first
  |(go_at_call 52;refine(Aa z _).mono ?_;rintro e w2 ⟨rfl,h⟩;obtain rfl:=h.symm;clear h)
  |fail)
 go_ret;exact⟨by rw[Aa K];rfl,Aa J⟩
theorem Zw{T:AF}(h:AS w0 w q P T k)(g:T.fs=[])(kd nd n a b:Int)(v:Value):
  Calls Tryz.prog 29 #[.pointer (some ⟨q,0,none⟩),.agg #[.int .i64 kd,.int .i64 nd,.int .i64 n,.int .i64 a,.int .i64 b,v]] w fun e w'=>e=.returned (.bool false)/\Below w.heap.size w w':=by
 have c:=Ax w (.cells (evC kd nd n a b v).toArray 42);have d:=Ab c;obtain⟨j,l,f⟩:=h.net.fly.len;have c2:=(h.below c).net.blk.at 2 rfl;rw[f,g]at c2;clear h c f;simp only[evC]at d c2;go_enter Tryz.func29,Tryz.ntmps29;go_wp2;go_ret;exact⟨rfl,Aa d⟩
def DW(T:AF)(n:Int):Nat:=(modZ n T.fs.length).toNat
def Ny(T:AF)(kd n a b:Int)(k:Nat)(c:AF)(k':Nat):Prop:=∃f wv,T.fs[DW T n]? =some f/\
 ((kd=3/\∃x en d,T.ns[f.dst.toNat]? =some x/\Hr x.n f.s T.now en d/\c=(T.fly wv (T.fs.eraseIdx (DW T n))).setN f.dst.toNat x.g d/\k'=k+1)\/
  (kd=4/\c=T.fly wv (T.fs.eraseIdx (DW T n))/\k'=k)\/(kd=5/\c=T.fly wv (onto T.fs [f])/\k'=k)\/(kd=6/\c=T.fly wv (T.fs.set (DW T n) (f.bear (Ih f.s a b)))/\k'=k))
structure F9(w0 w:World)(q p k:Nat)(P:Nat->Bq)(T:AF)(f:AH):Prop where
 nj:AS w0 w q P T k
 box:BkA 99 w p [.int .i64 f.fr,.int .i64 f.dst,.string f.s]
 out:¬F6 q T p
 lo:w0.heap.size<=p
theorem Ap.lit(w:World)(f:AH):Ap (w.alloc (.cells #[.int .i64 f.fr,.int .i64 f.dst,.string f.s] 99)) w.heap.size (.slice (some ⟨w.heap.size,0,none⟩) 1 1) [f]:=World.ownsRow_lit _ #[.int .i64 f.fr,.int .i64 f.dst,.string f.s] 1 (Nat.le_refl _) (by decide) rfl
theorem AS.flij{w1:World}{T:AF}(h:AS w0 w q P T k)(a:Below w.heap.size w w1)(f:AH):F9 w0 (w1.alloc (.cells #[.int .i64 f.fr,.int .i64 f.dst,.string f.s] 99)) q w1.heap.size k P T f:=
 ⟨(h.below a).below (Ax _ _),AN 99 w1 [.int .i64 f.fr,.int .i64 f.dst,.string f.s],fun e=>by
  have:=a.size;rcases e with e|e
  ·have:=h.net.blk.lt;omega
  ·have:=(EW h.net.fly e).2;omega,Nat.le_trans h.low.size a.size⟩
theorem F9.below{p:Nat}{T:AF}{f:AH}(h:F9 w0 w q p k P T f)(a:Below w.heap.size w w'):F9 w0 w' q p k P T f:=⟨h.nj.below a,h.box.below a,h.out,h.lo⟩
theorem ZT{g c:Nat}{T:AF}{f:AH}{s:ByteArray}(h:AS w0 w q P T k)(l:T.wv=.slice (some ⟨g,0,none⟩) T.fs.length c)(m:T.fs[i]? =some f)(A:s.size=f.s.size):AS w0 (w.setCell ⟨g,i*3+2,none⟩ (.string s)) q P (T.fly T.wv (T.fs.set i (f.bear s))) k:=by
 have r:=(List.getElem?_eq_some_iff.1 m).1;have p:T.fs.getD i .dflt=f:=by rw[List.getD_eq_getElem?_getD,m];rfl
 have b:Tu (fun j=>j=g) w (w.setCell ⟨g,i*3+2,none⟩ (.string s)):=Be _ _ _ _;have d:Tu (F6 q T) w (w.setCell ⟨g,i*3+2,none⟩ (.string s)):=b.wide fun j e=>.inr (by rw[l,e];rfl);have y:kdB w g=99+2:=Bu h.net.fly (by rw[l];rfl);have v:=h.net.fly;rw[l]at v;have a:=Ap.setS v r s;rw[p,<-l]at a
 have o:∀x∈T.fs.set i (f.bear s),GG T.ns.length x:=fun x u=>by
  rcases List.mem_or_eq_of_mem_set u with e|rfl
  ·exact h.inv.fly x e
  ·obtain⟨z,C,D⟩:=h.inv.fly f (List.mem_of_getElem? m)
   exact⟨z,by show 0<s.size;omega,by show s.size<=1048576;omega⟩
 exact⟨h.net.way d (h.net.blk.tu b fun e=>by have:=h.net.blk.kd;subst e;omega) a (by rw[List.length_set];exact h.net.few.2) h.net.now0,⟨fun i x u=>h.inv.node i x u,o⟩,h.net.lowB h.low (d.wide h.net.wayT)⟩
theorem pV{T:AF}(h:AS w0 w q P T k)(ht:Bt w0)(hk:k<=1000000)(hf:0<T.fs.length)(kd nd n a b:Int)(af:kd=3\/kd=4\/kd=5\/kd=6)(v:Value):
  Calls Tryz.prog 29 #[.pointer (some ⟨q,0,none⟩),.agg #[.int .i64 kd,.int .i64 nd,.int .i64 n,.int .i64 a,.int .i64 b,v]] w fun e w'=>e=.returned (.bool true)/\∃T' k',Ny T kd n a b k T' k'/\AS w0 w' q P T' k':=by
 have ag:=h.net.few.2;have hm:=WY (n:=n) (m:=(T.fs.length:Int)) (by omega);obtain⟨i,hi⟩:∃i:Nat,modZ n T.fs.length=(i:Int):=⟨(modZ n T.fs.length).toNat,by omega⟩;have z:i<T.fs.length:=by omega
 have Y:DW T n=i:=by unfold DW;omega
 have A:=Ax w (.cells (evC kd nd n a b v).toArray 42);have S:=Ab (AN 42 w (evC kd nd n a b v));have hN:=h.below A;have HM:=Ab (fun wx=>Ua n (T.fs.length:Int) wx (by omega));rw[hi]at HM;have e0:=(Aa S).at 0 rfl;have e2:=(Aa S).at 2 rfl;have e3:=(Aa S).at 3 rfl;have e4:=(Aa S).at 4 rfl;obtain⟨g,c,hv,hc⟩:=hN.net.fly.at hf;have c2:=hN.net.blk.at 2 rfl;rw[hv]at c2;obtain⟨f0,f1,f2⟩:=hc i z;obtain⟨f,E⟩:∃f,T.fs[i]? =some f:=⟨_,List.getElem?_eq_getElem z⟩;obtain⟨⟨W,X⟩,H,I⟩:=h.inv.fly f (List.mem_of_getElem? E);obtain⟨fr,dst,s⟩:=f;obtain⟨m,rfl⟩:∃m:Nat,dst=(m:Int):=⟨dst.toNat,by have:(0:Int)<=dst:=W;omega⟩;have Z:T.fs.getD i .dflt=⟨fr,m,s⟩:=by rw[List.getD_eq_getElem?_getD,E];rfl
 rw[Z]at f0 f1 f2;have ai:(m:Int)<(T.ns.length:Int):=X;have I:s.size<=1048576:=I;have H:0<s.size:=H;have ah:(i:Int)<(T.fs.length:Int):=by omega
 have aj:((T.fs.length:Int)==0)=false:=by rw[beq_eq_false_iff_ne];omega
 obtain⟨x,hx⟩:∃x,T.ns[m]? =some x:=⟨_,List.getElem?_eq_getElem (by omega)⟩
 have HJ:=Ab (fun nq=>(show F9 w0 (((w.alloc (.cells (evC kd nd n a b v).toArray 42)).drewN nq).alloc (.cells #[.int .i64 fr,.int .i64 (m:Int),.string s] 99)) q (w.heap.size+1) k P T ⟨fr,m,s⟩ from by
  have:=h.flij (I8 A nq) ⟨fr,m,s⟩;rw[World.heap_drewN,Bc]at this;exact this))
 have L:=Ab (fun nq=>(show(((w.alloc (.cells (evC kd nd n a b v).toArray 42)).drewN nq).alloc (.cells #[.int .i64 fr,.int .i64 (m:Int),.string s] 99)).heap.size=w.heap.size+1+1 from by rw[Bc,World.heap_drewN,Bc]));have K:=Ab (fun nq=>((AN 42 w (evC kd nd n a b v)).belowB (I8 (Below.refl _ _) nq) (BkA.lt (AN 42 w (evC kd nd n a b v)))).below (Ax _ (.cells #[.int .i64 fr,.int .i64 (m:Int),.string s] 99)));have HV:=Ab hv;have ac:=Ab (fun wx=>fQ s a b wx H I);have o:=Ab E
 have HG:=Ab (show g≠q/\g<w.heap.size from by
  have k1:=Bu h.net.fly (j:=g) (by rw[show T.wv=_ from hv];rfl);have k2:=h.net.blk.kd;have k3:=(EW h.net.fly (j:=g) (by rw[show T.wv=_ from hv];rfl)).2;exact⟨fun e=>by subst e;omega,k3⟩)
 have p:=Ab Y;clear h A hc hN hv hm hi Z W X H E Y;simp only[evC]at S e0 e2 e3 e4 c2 f0 f1 f2 HJ L K;rcases af with rfl|rfl|rfl|rfl
 all_goals go_enter Tryz.func29,Tryz.ntmps29
 all_goals go_wp2_with fail
 all_goals go_quiet ((go_at_call 52;exact Calls.quiet_of_same (Aa HM _)))
 all_goals go_wp2_with fail
 all_goals (have y:=Aa HJ nq;have hz:=Aa L nq;have D:=Aa K nq;clear HJ L K)
 ·refine(U7 y.nj z).mono ?_
  rintro e w3 ⟨rfl,wv,r,t3⟩;have d:=y.box.tu t3 y.out;have b1:w3.cell? ⟨w.heap.size+1,1,none⟩=some (.int .i64 (m:Int)):=d.at 1 rfl;have b2:w3.cell? ⟨w.heap.size+1,2,none⟩=some (.string s):=d.at 2 rfl;obtain⟨g2,k2,Q,V⟩:=r.net.cell (show(T.fly wv (T.fs.eraseIdx i)).ns[m]? =some x from hx);have n0:=r.net.blk.at 0 rfl;rw[Q]at n0;have n1:w3.cell? ⟨q,1,none⟩=some (.int .i64 T.now):=r.net.blk.at 1 rfl;have aa:w3.cell? ⟨q,0,none⟩=some (.slice (some ⟨g2,0,none⟩) T.ns.length k2):=n0
  have HR:=Ab (fun wx (u:Below w3.heap.size w3 wx)=>(pW (r.below u) ht (show(T.fly wv (T.fs.eraseIdx i)).ns[m]? =some x from hx) hk s I T.now).mono (R':=fun e w'=> ∃(en:Nat) (R:Ao),e=.returned (.int .i64 (en:Int))/\Hid (Hr x.n s T.now en R/\AS w0 w' q P ((T.fly wv (T.fs.eraseIdx i)).setN m x.g R) (k+1))/\w'.cell? ⟨q,0,none⟩=some (.slice (some ⟨g2,0,none⟩) T.ns.length k2)/\w'.cell? ⟨w.heap.size+1,1,none⟩=some (.int .i64 (m:Int))/\w'.cell? ⟨g2,m,none⟩=some (.pointer (some ⟨x.g,0,none⟩))/\w'.cell? ⟨w.heap.size+1,2,none⟩=some (.string s)/\w'.cell? ⟨q,1,none⟩=some (.int .i64 T.now)) fun e w' ⟨en,R,he,hr,ae,C⟩=>by
   have N:=(r.below u).net.each m x hx;have kq:=(r.below u).net.blk.kd;have kg:=Bu (r.below u).net.own (j:=g2) (by rw[Q];rfl);have O:=d.below u;have kp:=O.kd;have q1:¬Bg x.g x.n q:=fun e=>(N.nn q e).1 kq;have q2:¬Bg x.g x.n g2:=fun e=>(N.nn g2 e).2 kg;have q3:¬Bg x.g x.n (w.heap.size+1):=fun e=>(N.nk _ e).1 kp;exact⟨en,R,he,⟨hr,ae⟩,C.cell ((u.cell (World.block_lt_of_cell? w3 _ aa)).trans aa) q1,C.cell (O.at 1 rfl) q3,C.cell ((u.cell (World.block_lt_of_cell? w3 _ V)).trans V) q2,C.cell (O.at 2 rfl) q3,C.cell ((u.cell (World.block_lt_of_cell? w3 _ n1)).trans n1) q1⟩)
  clear y r t3 d n0 Q c2 f0 f1 f2 e0 e2 e3 e4 hz D;go_wp2_with fail
  go_region_held3 (fun w'=>w'.cell? ⟨q,0,none⟩=some (.slice (some ⟨g2,0,none⟩) T.ns.length k2)/\w'.cell? ⟨w.heap.size+1,1,none⟩=some (.int .i64 (m:Int))/\w'.cell? ⟨g2,m,none⟩=some (.pointer (some ⟨x.g,0,none⟩))/\w'.cell? ⟨w.heap.size+1,2,none⟩=some (.string s)/\w'.cell? ⟨q,1,none⟩=some (.int .i64 T.now)) (go_keep) (first
   |(go_at_call 54;refine(Aa HR _ (by first|exact I8 (Below.refl _ _) _|exact(Below.refl _ _).drew)).mono ?_;rintro e w4 ⟨en,R,rfl,l,z0,z1,z2,z3,z4⟩)
   |fail)
  all_goals go_wp2
  all_goals go_ret
  all_goals exact⟨rfl,_,_,⟨⟨fr,m,s⟩,wv,by rw[Aa p];exact Aa o,.inl ⟨rfl,x,en,R,hx,(Aa l).1,by rw[Aa p];rfl,rfl⟩⟩,(Aa l).2⟩
 ·refine(U7 y.nj z).mono ?_
  rintro e w3 ⟨rfl,wv,r,t3⟩;have l:=Ab r;clear y r t3 c2 f0 f1 f2 e0 e2 e3 e4;go_wp2;go_ret;exact⟨rfl,_,_,⟨⟨fr,m,s⟩,wv,by rw[Aa p];exact Aa o,.inr (.inl ⟨rfl,by rw[Aa p],rfl⟩)⟩,Aa l⟩
 ·have J:=Ap.lit (((w.alloc (.cells #[.int .i64 5,.int .i64 nd,.int .i64 n,.int .i64 a,.int .i64 b,v] 42)).drewN nq).alloc (.cells #[.int .i64 fr,.int .i64 (m:Int),.string s] 99)) ⟨fr,m,s⟩
  rw[hz]at J;refine(Pt (y.nj.below (Ax _ _)) J (show 1<=4096 by decide) (fun f hm=>by rw[List.mem_singleton.1 hm];exact y.nj.inv.fly _ (List.mem_of_getElem? (Aa o)))).mono ?_;rintro e w3 ⟨rfl,wv,r⟩;have l:=Ab r;clear y r c2 f0 f1 f2 e0 e2 e3 e4;go_wp2;go_ret;exact⟨rfl,_,_,⟨⟨fr,m,s⟩,wv,by rw[Aa p];exact Aa o,.inr (.inr (.inl ⟨rfl,rfl,rfl⟩))⟩,Aa l⟩
 ·have l:=Ab (fun wx (u:Below (((w.alloc (.cells #[.int .i64 6,.int .i64 nd,.int .i64 n,.int .i64 a,.int .i64 b,v] 42)).drewN nq).alloc (.cells #[.int .i64 fr,.int .i64 (m:Int),.string s] 99)).heap.size _ wx)=>(show wx.cell? ⟨q,2,none⟩=some (.slice (some ⟨g,0,none⟩) T.fs.length c)/\wx.cell? ⟨g,i*3+2,none⟩=some (.string s)/\wx.frozen? ⟨g,i*3+2,none⟩=false/\wx.cell? ⟨w.heap.size+1,2,none⟩=some (.string s)/\wx.cell? ⟨w.heap.size,3,none⟩=some (.int .i64 a)/\wx.cell? ⟨w.heap.size,4,none⟩=some (.int .i64 b)/\Hid (AS w0 (wx.setCell ⟨g,i*3+2,none⟩ (.string (Ih s a b))) q P (T.fly T.wv (T.fs.set i ((⟨fr,m,s⟩:AH).bear (Ih s a b)))) k) from by
   have h4:=y.nj.below u;have c4:=h4.net.blk.at 2 rfl;have o4:=h4.net.fly;rw[Aa HV]at c4 o4;refine⟨c4,?_,o4.frz _,(y.box.below u).at 2 rfl,(D.below u).at 3 rfl,(D.below u).at 4 rfl,ZT h4 (Aa HV) (Aa o) (jb _ _ _)⟩;obtain⟨g',c',e',ad⟩:=o4.at hf;simp only[Value.slice.injEq,Option.some.injEq,Addr.mk.injEq,and_true,true_and]at e';obtain⟨rfl,rfl⟩:=e';have:=(ad i z).2.2;rwa[List.getD_eq_getElem?_getD,Aa o]at this))
  have g1:g≠q:=(Aa HG).1;have g2:g≠w.heap.size+1:=by have:=(Aa HG).2;omega
  have g3:g≠w.heap.size:=by have:=(Aa HG).2;omega
  have p2:=y.box.at 2 rfl;have g4:=g1.symm;have g5:=g2.symm;have g6:=g3.symm;clear y hz D
  go_region_held3 (fun w'=>w'.cell? ⟨q,2,none⟩=some (.slice (some ⟨g,0,none⟩) T.fs.length c)/\w'.cell? ⟨w.heap.size+1,2,none⟩=some (.string s)/\w'.cell? ⟨w.heap.size,3,none⟩=some (.int .i64 a)/\w'.cell? ⟨w.heap.size,4,none⟩=some (.int .i64 b)) (go_keep) (first
   |(go_at_call 55;refine(Aa ac _).mono ?_;rintro e w3 ⟨rfl,d⟩;obtain⟨y1,y2,y3,y4,y5,y6,ab⟩:=Aa l w3 (by first|exact(I8 (Below.refl _ _) _).trans d|exact(Below.refl _ _).drew.trans d|exact d);clear d)
   |fail)
  all_goals go_wp2
  all_goals go_ret
  all_goals exact⟨rfl,_,_,⟨⟨fr,m,s⟩,T.wv,by rw[Aa p];exact Aa o,.inr (.inr (.inr ⟨rfl,by rw[Aa p],rfl⟩))⟩,Aa ab⟩
def Qy(T:AF)(kd nd:Int):Prop:=(kd<1\/7<kd)\/((kd=2\/kd=7)/\¬(0<=nd/\nd<T.ns.length))\/((kd=3\/kd=4\/kd=5\/kd=6)/\T.fs=[])
def ES(T:AF)(kd nd n a b:Int)(L:List Nat)(k:Nat)(ok:Bool)(c:AF)(k':Nat):Prop:=
 (ok=true/\kd=1/\∃wv,c=FW T (min (max n 0) 1048576) T.ns.length wv/\k'=k+2*T.ns.length)\/
 (ok=true/\kd=2/\∃(i:Nat) (x:BB) (f:Bp) (wv:Value),nd=(i:Int)/\T.ns[i]? =some x/\Fi x.n L f/\c=NA T i x f wv/\k'=k+2)\/
 (ok=true/\kd=7/\∃(i:Nat) (x:BB) (s:A0),nd=(i:Int)/\T.ns[i]? =some x/\Hw x.n.p s/\c=T.setN i x.g ⟨x.n.id,(x.n.inc+1)%4294967296,x.n.p,x.n.src,s,x.n.t+1⟩/\k'=k+1)\/
 (ok=true/\(kd=3\/kd=4\/kd=5\/kd=6)/\0<T.fs.length/\Ny T kd n a b k c k')\/
 (ok=false/\Qy T kd nd/\c=T/\k'=k)
theorem GO{T:AF}(h:AS w0 w q P T k)(ht:Bt w0)(R:k<=1000000)(kd nd n a b:Int){r:Option Addr}{dn:Nat}(dc:Nat){L:List Nat}(Q:RowAt w r dn L)(O:dn<=1048576):
  Calls Tryz.prog 13 #[.pointer (some ⟨q,0,none⟩),.agg #[.int .i64 kd,.int .i64 nd,.int .i64 n,.int .i64 a,.int .i64 b,.slice r dn dc]] w fun e w'=> ∃ok J k',e=.returned (.bool ok)/\ES T kd nd n a b L k ok J k'/\AS w0 w' q P J k':=by
 have p:=Ax w (.cells (evC kd nd n a b (.slice r dn dc)).toArray 42);have y:=Ab (AN 42 w (evC kd nd n a b (.slice r dn dc)));have g:=h.below p;have c:=Q.below p;have W:=(Aa y).at 0 rfl;have X:=(Aa y).at 1 rfl;have Y:=(Aa y).at 2 rfl;have Z:=(Aa y).at 3 rfl;have e4:=(Aa y).at 4 rfl;have e5:=(Aa y).at 5 rfl;have h8:=h.net.few.1;clear h p Q;simp only[evC]at y g c W X Y Z e4 e5;by_cases C:kd=1
 ·subst C
  have ab:=JM n 0;have aa:=Iy (max n 0) 1048576;have m:=Ab (iN g (min (max n 0) 1048576) (by omega));clear g c;generalize hg:min (max n 0) 1048576=d at*;go_enter Tryz.func13,Tryz.ntmps13
  go_wp2_with (first
   |(go_at_call 27;refine(Aa m).mono ?_;rintro e w1 ⟨rfl,wv,o⟩;have j:=Ab o;clear o)
   |fail)
  go_ret;exact⟨true,_,_,rfl,.inl ⟨rfl,rfl,wv,by rw[hg],rfl⟩,Aa j⟩
 by_cases D:kd=2
 ·subst D
  by_cases l:0<=nd/\nd<T.ns.length
  ·obtain⟨i,rfl⟩:∃i:Nat,nd=(i:Int):=⟨nd.toNat,by omega⟩
   obtain⟨x,A⟩:∃x,T.ns[i]? =some x:=⟨_,List.getElem?_eq_getElem (by omega)⟩;have m:=Ab (mg g ht A R dc c O n a b);clear g c l;go_enter Tryz.func13,Tryz.ntmps13
   go_wp2_with (first
    |(go_at_call 28;refine(Aa m).mono ?_;rintro e w1 ⟨rfl,f,wv,z,o⟩;have j:=Ab (And.intro z o);clear z o)
    |fail)
   go_ret;exact⟨true,_,_,rfl,.inr (.inl ⟨rfl,rfl,i,x,f,wv,rfl,A,(Aa j).1,rfl,rfl⟩),(Aa j).2⟩
  ·have m:=Ab (Ub q w0.heap.size T 2 nd n a b (.slice r dn dc) _ g.net l)
   have v:=Ab g;clear g c;go_enter Tryz.func13,Tryz.ntmps13
   go_wp2_with (first
    |(go_at_call 28;refine(Aa m).mono ?_;rintro e w1 ⟨rfl,u⟩;have j:=Ab ((Aa v).below u);clear u)
    |fail)
   go_ret;exact⟨false,_,_,rfl,.inr (.inr (.inr (.inr ⟨rfl,.inr (.inl ⟨.inl rfl,l⟩),rfl,rfl⟩))),Aa j⟩
 by_cases H:kd=7
 ·subst H
  by_cases l:0<=nd/\nd<T.ns.length
  ·obtain⟨i,rfl⟩:∃i:Nat,nd=(i:Int):=⟨nd.toNat,by omega⟩
   obtain⟨x,A⟩:∃x,T.ns[i]? =some x:=⟨_,List.getElem?_eq_getElem (by omega)⟩;have m:=Ab (fS g A n a b (.slice r dn dc));clear g c l;go_enter Tryz.func13,Tryz.ntmps13
   go_wp2_with (first
    |(go_at_call 28;refine(Aa m).mono ?_;rintro e w1 ⟨rfl,s,S,o⟩;have j:=Ab (And.intro S o);clear S o)
    |fail)
   go_ret;exact⟨true,_,_,rfl,.inr (.inr (.inl ⟨rfl,rfl,i,x,s,rfl,A,(Aa j).1,rfl,rfl⟩)),(Aa j).2⟩
  ·have m:=Ab (Ub q w0.heap.size T 7 nd n a b (.slice r dn dc) _ g.net l)
   have v:=Ab g;clear g c;go_enter Tryz.func13,Tryz.ntmps13
   go_wp2_with (first
    |(go_at_call 28;refine(Aa m).mono ?_;rintro e w1 ⟨rfl,u⟩;have j:=Ab ((Aa v).below u);clear u)
    |fail)
   go_ret;exact⟨false,_,_,rfl,.inr (.inr (.inr (.inr ⟨rfl,.inr (.inl ⟨.inr rfl,l⟩),rfl,rfl⟩))),Aa j⟩
 by_cases E:kd=3\/kd=4\/kd=5\/kd=6
 ·by_cases z:0<T.fs.length
  ·have m:=Ab (pV g ht R z kd nd n a b E (.slice r dn dc))
   have I:=Ab z;clear g c C D H z;rcases E with rfl|rfl|rfl|rfl
   all_goals go_enter Tryz.func13,Tryz.ntmps13
   all_goals go_wp2_with (first
    |(go_at_call 29;refine(Aa m).mono ?_;rintro e w1 ⟨rfl,J,k',hp,o⟩;have j:=Ab (And.intro hp o);clear hp o)
    |fail)
   all_goals go_ret
   all_goals exact⟨true,_,_,rfl,.inr (.inr (.inr (.inl ⟨rfl,by decide,Aa I,(Aa j).1⟩))),(Aa j).2⟩
  ·have K:T.fs=[]:=List.eq_nil_of_length_eq_zero (by omega)
   have m:=Ab (Zw g K kd nd n a b (.slice r dn dc));have v:=Ab g;have I:=Ab K;clear g c C D H z K;rcases E with rfl|rfl|rfl|rfl
   all_goals go_enter Tryz.func13,Tryz.ntmps13
   all_goals go_wp2_with (first
    |(go_at_call 29;refine(Aa m).mono ?_;rintro e w1 ⟨rfl,u⟩;have j:=Ab ((Aa v).below u);clear u)
    |fail)
   all_goals go_ret
   all_goals exact⟨false,_,_,rfl,.inr (.inr (.inr (.inr ⟨rfl,.inr (.inr ⟨by decide,Aa I⟩),rfl,rfl⟩))),Aa j⟩
 ·have v:=Ab g
  have V:=Ab (show kd<1\/7<kd by omega);have b1:(kd==1)=false:=by rw[beq_eq_false_iff_ne];omega
  have b2:(kd==2)=false:=by rw[beq_eq_false_iff_ne];omega
  have b3:(kd==3)=false:=by rw[beq_eq_false_iff_ne];omega
  have b4:(kd==4)=false:=by rw[beq_eq_false_iff_ne];omega
  have b5:(kd==5)=false:=by rw[beq_eq_false_iff_ne];omega
  have b6:(kd==6)=false:=by rw[beq_eq_false_iff_ne];omega
  have b7:(kd==7)=false:=by rw[beq_eq_false_iff_ne];omega
  clear g c C D E H;go_enter Tryz.func13,Tryz.ntmps13;go_wp2;go_ret;exact⟨false,_,_,rfl,.inr (.inr (.inr (.inr ⟨rfl,.inl (Aa V),rfl,rfl⟩))),Aa v⟩
theorem fH(f:A4)(w:World)(g:f.obj.size<=9223372036854775807):
  Calls Tryz.prog 17 #[f.val] w fun e w'=>((e=.returned (.int .i64 1)/\600<f.obj.size)\/(e=.returned (.int .i64 0)/\f.obj.size<=600))/\Below w.heap.size w w':=by
 obtain⟨a,n,c,ds,obj,size,spread,buffer,queue,cache,rate,timeout,target⟩:=f;simp only[A4.val]at g⊢;have b:=Ab (Ax w (.cells #[.slice a n c,.string obj,.int .i64 size,.int .i64 spread,.int .i64 buffer,.int .i64 queue,.int .i64 cache,.float .f64 rate,.int .i64 timeout,.int .i64 target] 25));by_cases h:600<obj.size
 ·have d:decide (600<(obj.size:Int))=true:=by simp only[decide_eq_true_eq];omega
  go_enter Tryz.func17,Tryz.ntmps17;go_wp2;go_ret;exact⟨.inl ⟨rfl,h⟩,Aa b⟩
 ·have d:decide (600<(obj.size:Int))=false:=by simp only[decide_eq_false_iff_not];omega
  go_enter Tryz.func17,Tryz.ntmps17;go_wp2;go_ret;exact⟨.inr ⟨rfl,by omega⟩,Aa b⟩
theorem Bz.node{w:World}{f:A4}(h:Bz w f){i:Nat}(d:i<f.n):∃b off,f.a=some ⟨b,off,none⟩/\w.cell? ⟨b,off+i*2,none⟩=some (.int .i64 (f.ds.getD i .dflt).kd)/\w.cell? ⟨b,off+i*2+1,none⟩=some (.slice (f.ds.getD i .dflt).a (f.ds.getD i .dflt).n (f.ds.getD i .dflt).c):=by
 obtain⟨b,off,e,g⟩:=h.nds.at d;exact⟨b,off,e,g i d⟩
theorem WZ{w:World}{f:A4}{i:Nat}(h:Bz w f)(e:Bl f 0)(a:i<f.n):G9 w f i/\f.n<=8:=by
 rcases e with⟨hp,b⟩|⟨_,b⟩
 ·obtain⟨⟨j,l,_⟩,d,_⟩:=hp
  obtain⟨r,g,_⟩:=d i a;obtain⟨Z,m,o,p,c⟩:=ro b.symm;have s:=(h.nds.2.1 i a).1;refine⟨⟨h.nds,a,by omega,by omega,by omega,(h.tos i a).2,h.rate,⟨by omega,by omega,l.1,?_⟩⟩,j.2⟩;rw[m];exact c
 ·exact absurd b (by decide)
end Go.Proofs.YtfpmnekaockodaaGreatDoor
