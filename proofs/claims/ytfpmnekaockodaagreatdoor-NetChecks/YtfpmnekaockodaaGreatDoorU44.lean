/-
  Laws that the proof stands on.
-/
import Derived.Test.YtfpmnekaockodaaGreatDoorU43
namespace Go.Proofs.YtfpmnekaockodaaGreatDoor
open Go.RowKit Go.Sort
set_option linter.unusedVariables false
set_option linter.unusedSimpArgs false
set_option maxRecDepth 4000
set_option maxHeartbeats 8000000
variable {n:Ao}{x:BS}{i N k k' q B:Nat}{P:Nat->A9}{w w0 w':World}
structure Fb(p:A9)(i N k:Nat)(n:Ao):Prop where
 id:n.id=i
 p:n.p=p
 src:∀r,n.src=some r->Cn n.id r
 fr:CJ n
 tm:n.t<=k
 rate:n.p.rate<18446744073709551616
 tos:∀j,j<n.p.tos.length->0<=n.p.tos.getD j 0/\n.p.tos.getD j 0<N
def Gw(N:Nat)(f:AG):Prop:=(0<=f.dst/\f.dst<N)/\0<f.s.size/\f.s.size<=1048576
structure H4(P:Nat->A9)(T:AK)(k:Nat):Prop where
 node:∀i x,T.ns[i]? =some x->Fb (P i) i T.ns.length k x.n
 fly:∀f∈T.fs,Gw T.ns.length f
theorem Fb.more{p:A9}(h:Fb p i N k n)(a:k<=k'):Fb p i N k' n:=⟨h.id,h.p,h.src,h.fr,Nat.le_trans h.tm a,h.rate,h.tos⟩
theorem Fb.each{p:A9}{u:AJ->Int×List ByteArray×Nat}(h:Fb p i N k n)(a:CJ (n.each u)):Fb p i N (k+1) (n.each u):=⟨h.id,h.p,h.src,a,Nat.succ_le_succ h.tm,h.rate,h.tos⟩
theorem GX.pos{id:Nat}{kd:Int}{s:ByteArray}(h:GX id kd s):0<s.size:=by
 obtain⟨f,a,_,rfl,_⟩:=h;show 0<(Fr _ _ _ _ _ _ _ _ _ _).size;unfold Fr;rw[Ky];omega
theorem Fb.fly{p:A9}(h:Fb p i N k n)(e:n.s.ls.length=n.p.tos.length):∀f∈flyTo n n.s.ls.length,Gw N f:=fun f c=>by
 obtain⟨_,a,j,d,b⟩:=WE h.fr _ (Nat.le_refl _) f c;exact⟨b▸h.tos j (by omega),a.pos,a.size⟩
theorem H4.more{T:AK}(h:H4 P T k)(a:k<=k'):H4 P T k':=⟨fun i x b=>(h.node i x b).more a,h.fly⟩
theorem H4.set{T:AK}{wv:Value}{fs:List AG}{now:Int}(h:H4 P T k)(d:k<=k')(m:T.ns[i]? =some x)(l:Fb (P i) i T.ns.length k' n)(c:∀f∈fs,Gw T.ns.length f):H4 P ⟨T.nv,T.ns.set i ⟨x.g,n⟩,now,wv,fs⟩ k':=by
 have b:(T.ns.set i ⟨x.g,n⟩).length=T.ns.length:=List.length_set;refine⟨fun j y a=>?_,fun f e=>?_⟩
 ·show Fb (P j) j (T.ns.set i _).length k' y.n
  rw[b];rcases Mb m a with⟨rfl,rfl⟩|⟨o,a⟩
  ·exact l
  ·exact(h.node j y a).more d
 ·show Gw (T.ns.set i _).length f
  rw[b];exact c f e
theorem pt{fs us:List AG}(b:∀f∈fs,Gw N f)(c:∀f∈us,Gw N f):∀f∈onto fs us,Gw N f:=fun f d=>by
 rcases List.mem_append.1 d with a|a
 ·exact b f a
 ·exact c f (List.mem_of_mem_take a)
theorem AB.wayT{T:AK}(h:AB w q B T):∀j,F0 q T j->Lr q T j:=fun j a=>a.imp id fun e=>.inr (.inl e)
theorem pe{T:AK}(b:T.ns[i]? =some x):∀j,Bg x.g x.n j->Lr q T j:=fun j a=>.inr (.inr (.inr ⟨i,x,b,a⟩))
theorem AB.tabs{T:AK}(h:AB w q B T){w0:World}(ht:∀wx,Below B w0 wx->Bt wx)(a:Below B w0 w)(wx:World)(b:Below B w wx):Bt wx:=ht wx (a.trans b)
theorem AB.lowB{T:AK}(h:AB w q B T)(a:Below B w0 w)(ht:Tu (Lr q T) w w'):Below B w0 w':=
 a.trans (ht.below (Nat.le_trans h.lo (Nat.le_of_lt h.blk.lt)) fun j c b=>by have:=h.low j b;omega)
def evC(kd nd n a b:Int)(v:Value):List Value:=[.int .i64 kd,.int .i64 nd,.int .i64 n,.int .i64 a,.int .i64 b,v]
theorem TU(q B:Nat)(T:AK)(kd id n a b:Int)(v:Value)(w:World)(h:AB w q B T)(c:¬(0<=id/\id<T.ns.length)):
  Calls Tryz.prog 28 #[.pointer (some ⟨q,0,none⟩),.agg #[.int .i64 kd,.int .i64 id,.int .i64 n,.int .i64 a,.int .i64 b,v]] w fun e w'=>e=.returned (.bool false)/\Below w.heap.size w w':=by
 have g:=Ab (Ax w (.cells (evC kd id n a b v).toArray 42));have l:=Ab (AN 42 w (evC kd id n a b v));have j:=Ab (L9 q B T id _ (h.below (Ax w (.cells (evC kd id n a b v).toArray 42))));have o:=(Aa l).at 1 rfl;have m:=Ab c;clear h c;simp only[evC]at g l j o;go_enter Tryz.func28,Tryz.ntmps28
 go_wp2_with (first
  |(go_at_call 30;refine(Aa j).mono ?_;rintro e w1 ⟨⟨rfl,f⟩|⟨rfl, -⟩,d⟩;(exact absurd f (Aa m));(obtain rfl:=d.symm;clear d))
  |fail)
 go_ret;exact⟨rfl,Aa g⟩
def AK.setN(T:AK)(i g:Nat)(n:Ao):AK:=⟨T.nv,T.ns.set i ⟨g,n⟩,T.now,T.wv,T.fs⟩
def AK.fly(T:AK)(v:Value)(fs:List AG):AK:=⟨T.nv,T.ns,T.now,v,fs⟩
theorem W8{T:AK}(a:T.ns[i]? =some x)(n:Ao):(T.setN i x.g n).ns[i]? =some ⟨x.g,n⟩:=by
 show(T.ns.set i _)[i]? =_;rw[List.getElem?_set,if_pos rfl,if_pos (List.getElem?_eq_some_iff.1 a).1]
theorem Wl(T:AK)(i g:Nat)(n:Ao):(T.setN i g n).ns.length=T.ns.length:=List.length_set
theorem Wm(T:AK)(i g:Nat)(n m:Ao):(T.setN i g n).setN i g m=T.setN i g m:=by
 unfold AK.setN;simp only[List.set_set]
structure A3(w0 w:World)(q:Nat)(P:Nat->A9)(T:AK)(k:Nat):Prop where
 net:AB w q w0.heap.size T
 inv:H4 P T k
 low:Below w0.heap.size w0 w
theorem A3.tabs{T:AK}(h:A3 w0 w q P T k)(ht:Bt w0):∀wx,Below w0.heap.size w wx->Bt wx:=fun wx a=>ht.below (h.low.trans a)
theorem A3.below{T:AK}(h:A3 w0 w q P T k)(a:Below w.heap.size w w'):A3 w0 w' q P T k:=⟨h.net.below a,h.inv,Ad h.low a⟩
theorem A3.more{T:AK}(h:A3 w0 w q P T k)(a:k<=k'):A3 w0 w q P T k':=⟨h.net,h.inv.more a,h.low⟩
theorem A3.set{T:AK}(h:A3 w0 w q P T k)(a:T.ns[i]? =some x)(c:Al w' x.g w0.heap.size n)(ht:Tu (Bg x.g x.n) w w')(d:∀j,j<w.heap.size->Bg x.g n j->Bg x.g x.n j)(b:Fb (P i) i T.ns.length (k+1) n):A3 w0 w' q P (T.setN i x.g n) (k+1):=
 ⟨h.net.node a c ht d,h.inv.set (Nat.le_succ k) a b h.inv.fly,h.net.lowB h.low (ht.wide (pe (q:=q) a))⟩
def EZ(n:Ao)(f:Bp):Ao:=n.each (Fz n.p.queue f.enc)
theorem Y8{T:AK}(h:A3 w0 w q P T k)(ht:Bt w0)(b:T.ns[i]? =some x)(u:k<=1000000){c:Option Addr}{dn:Nat}(dc:Nat){L:List Nat}(r:RowAt w c dn L)(d:dn<=1048576)(now:Int):
  Calls Tryz.prog 50 #[.pointer (some ⟨x.g,0,none⟩),.slice c dn dc,.int .i64 now] w fun e w'=>e=.returned (.tuple #[])/\∃f:Bp,Fa x.n L f/\A3 w0 w' q P (T.setN i x.g (EZ x.n f)) (k+1):=by
 have X:=h.inv.node i x b;have N:=h.net.each i x b;have a:x.n.id<=7:=by rw[X.id];have:=(List.getElem?_eq_some_iff.1 b).1;have:=h.net.few.1;omega
 refine(lF x.g w0.heap.size x.n c dn dc L now w N (h.tabs ht) X.src a r d (by have:=X.tm;omega)).mono ?_;rintro e w' ⟨rfl,f,o,p,m,l⟩;exact⟨rfl,f,o,h.set b p m (fun j _ s=>PX j s) (X.each (X.fr.act (XX N a X.src o l)))⟩
theorem pi{T:AK}(h:A3 w0 w q P T k)(b:T.ns[i]? =some x)(d:Int):
  Calls Tryz.prog 47 #[.pointer (some ⟨x.g,0,none⟩),.int .i64 d] w fun e w'=>e=.returned (.tuple #[])/\A3 w0 w' q P (T.setN i x.g (x.n.each (ID x.n.p.M x.n.p.queue d))) (k+1):=by
 have X:=h.inv.node i x b;refine(im x.g w0.heap.size x.n d w (h.net.each i x b)).mono ?_;rintro e w' ⟨rfl,c,a⟩;exact⟨rfl,h.set b c a (fun j _ f=>PX j f) (X.each X.fr.tick)⟩
theorem UW{T:AK}(h:A3 w0 w q P T k)(b:T.ns[i]? =some x):
  Calls Tryz.prog 49 #[.pointer (some ⟨x.g,0,none⟩)] w fun e w'=> ∃v,e=.returned v/\Ap w' w.heap.size v (flyTo x.n x.n.s.ls.length)/\(flyTo x.n x.n.s.ls.length).length<=4096/\(∀f∈flyTo x.n x.n.s.ls.length,Gw T.ns.length f)/\A3 w0 w' q P (T.setN i x.g (x.n.each Cx)) (k+1):=by
 have X:=h.inv.node i x b;have N:=h.net.each i x b;refine(ik x.g w0.heap.size x.n w N).mono ?_;rintro e w' ⟨v,rfl,m,c,a⟩;refine⟨v,rfl,m,?_,X.fly N.num.2.1,h.set b c a (fun j _ l=>PX j l) (X.each X.fr.pump)⟩;have o:x.n.s.ls.length<=8:=by have:=N.num;omega
 exact Nat.le_trans (OA fun i d=>N.fly d) (by omega)
theorem Pn{b:Nat}{T:AK}{v:Value}{us:List AG}(h:A3 w0 w q P T k)(l:Ap w b v us)(g:us.length<=4096)(d:∀f∈us,Gw T.ns.length f):
  Calls Tryz.prog 48 #[.pointer (some ⟨q,0,none⟩),v] w fun e w'=>e=.returned (.tuple #[])/\∃wv,A3 w0 w' q P (T.fly wv (onto T.fs us)) k:=
 (ip q w0.heap.size b T v us w h.net l g).mono fun e w' ⟨c,wv,j,a⟩=>
  ⟨c,wv,j,⟨fun i x m=>h.inv.node i x m,pt h.inv.fly d⟩,h.net.lowB h.low (a.wide h.net.wayT)⟩
theorem UX{T:AK}(h:A3 w0 w q P T k)(d:i<T.fs.length):
  Calls Tryz.prog 53 #[.pointer (some ⟨q,0,none⟩),.int .i64 (i:Int)] w fun e w'=>e=.returned (.tuple #[])/\∃wv,A3 w0 w' q P (T.fly wv (T.fs.eraseIdx i)) k/\Tu (F0 q T) w w':=
 (iq q w0.heap.size i T w h.net d).mono fun e w' ⟨b,wv,g,a⟩=>
  ⟨b,wv,⟨g,⟨fun i x j=>h.inv.node i x j,fun f c=>h.inv.fly f (List.mem_of_mem_eraseIdx c)⟩,h.net.lowB h.low (a.wide h.net.wayT)⟩,a⟩
theorem pg{T:AK}(h:A3 w0 w q P T k)(ht:Bt w0)(f:T.ns[i]? =some x)(u:k<=1000000)(s:ByteArray)(r:s.size<=1048576)(now:Int):
  Calls Tryz.prog 54 #[.pointer (some ⟨x.g,0,none⟩),.string s,.int .i64 now] w fun e w'=> ∃(en:Nat) (n:Ao),e=.returned (.int .i64 (en:Int))/\Hl x.n s now en n/\A3 w0 w' q P (T.setN i x.g n) (k+1)/\Tu (Bg x.g x.n) w w':=by
 have X:=h.inv.node i x f;have N:=h.net.each i x f;refine(il x.g w0.heap.size x.n s now w N (h.tabs ht) r (by have:=X.tm;omega)).mono ?_;rintro e w' ⟨en,n,rfl,c,o,a,d⟩;obtain⟨l,j,b,m⟩:=X.fr.recv c;exact⟨en,n,rfl,c,h.set f o a d ⟨j.trans X.id,b.trans X.p,by rw[m,j];exact X.src,l,Nat.le_trans (ZL c) (Nat.succ_le_succ X.tm),by rw[b];exact X.rate,by rw[b];exact X.tos⟩,a⟩
theorem kh{T:AK}(h:A3 w0 w q P T k)(d:T.ns[i]? =some x):
  Calls Tryz.prog 51 #[.pointer (some ⟨x.g,0,none⟩)] w fun e w'=>e=.returned (.tuple #[])/\∃s:AZ,Hq x.n.p s/\A3 w0 w' q P (T.setN i x.g ⟨x.n.id,(x.n.inc+1)%4294967296,x.n.p,x.n.src,s,x.n.t+1⟩) (k+1):=by
 have X:=h.inv.node i x d;have N:=h.net.each i x d;refine(el x.g w0.heap.size x.n w N X.rate).mono ?_;rintro e w' ⟨rfl,s,l,f,c,b⟩;refine⟨rfl,s,f,h.set d l (c.wide fun j e=>.inl e) (fun j m a=>?_) ⟨X.id,X.p,X.src,CJ.new f,Nat.succ_le_succ X.tm,X.rate,X.tos⟩⟩;rcases a with a|a|a|a
 ·exact .inl a
 ·exact .inr (.inl a)
 ·exact .inr (.inr (.inl a))
 ·have:=b j a
  omega
theorem I4{a:World}(h:Below B a w)(n:Nat):Below B a (w.drewN n):=h.trans ⟨rfl,rfl,rfl,Nat.le_refl _,fun _ _=>rfl⟩
def Nt(T:AK)(i:Nat)(x:BS)(f:Bp)(wv:Value):AK:=(T.setN i x.g ((EZ x.n f).each Cx)).fly wv (onto T.fs (flyTo (EZ x.n f) x.n.s.ls.length))
theorem kb{T:AK}(h:A3 w0 w q P T k)(ht:Bt w0)(C:T.ns[i]? =some x)(hk:k<=1000000){l:Option Addr}{dn:Nat}(dc:Nat){L:List Nat}(S:RowAt w l dn L)(H:dn<=1048576)(n a b:Int):
  Calls Tryz.prog 28 #[.pointer (some ⟨q,0,none⟩),.agg #[.int .i64 2,.int .i64 (i:Int),.int .i64 n,.int .i64 a,.int .i64 b,.slice l dn dc]] w fun e w'=>e=.returned (.bool true)/\∃(f:Bp) (wv:Value),Fa x.n L f/\A3 w0 w' q P (Nt T i x f wv) (k+2):=by
 have aa:=(List.getElem?_eq_some_iff.1 C).1;have h8:=h.net.few.1;have d:=Ax w (.cells (evC 2 i n a b (.slice l dn dc)).toArray 42);have A:=Ab (AN 42 w (evC 2 i n a b (.slice l dn dc)));have m:=h.below d;have Q:=Ab (L9 q w0.heap.size T (i:Int) _ m.net);have e0:=(Aa A).at 0 rfl;have e1:=(Aa A).at 1 rfl;have e5:=(Aa A).at 5 rfl;obtain⟨g,c,Y,hc⟩:=m.net.cell C;have c0:=m.net.blk.at 0 rfl;rw[Y]at c0;have c1:=m.net.blk.at 1 rfl;have O:=Ab (fun wx (R:Below (w.alloc (.cells (evC 2 i n a b (.slice l dn dc)).toArray 42)).heap.size (w.alloc (.cells (evC 2 i n a b (.slice l dn dc)).toArray 42)) wx)=>Y8 (m.below R) ht C hk dc ((S.below d).below R) H T.now);have HI:=Ab (show 0<=(i:Int)/\(i:Int)<T.ns.length by omega);have X:(i:Int)<(T.ns.length:Int):=by omega
 clear h ht S m Y d;simp only[evC]at A Q e0 e1 e5 c0 c1 hc O;go_enter Tryz.func28,Tryz.ntmps28
 go_wp2_with (first
  |(go_at_call 30;refine(Aa Q).mono ?_;rintro e w1 ⟨⟨rfl, -⟩|⟨rfl,J⟩,z⟩;(rotate_left;exact absurd (Aa HI) J);obtain rfl:=z.symm;clear z)
  |fail)
 go_quiet (fail);go_wp2_with fail
 go_region_with (first
  |(go_at_call 50;refine(Aa O _ (by first|exact I4 (Below.refl _ _) _|exact(Below.refl _ _).drew)).mono ?_;rintro e w2 ⟨rfl,f,V,W⟩;have Z:=Ab V;have HJ:=Ab W;clear V W)
  |fail)
 all_goals (have K:=W8 C (EZ x.n f))
 all_goals (have I:(EZ x.n f).s.ls.length=x.n.s.ls.length:=Fg)
 all_goals go_wp2_with (first
  |(go_at_call 49;refine(UW (Aa HJ) K).mono ?_;rintro e w3 ⟨v,rfl,y,u,o,p⟩;have j:=Ab (And.intro y (And.intro u o));have D:=Ab p;clear y u o p)
  |(go_at_call 48;refine(Pn (Aa D) (Aa j).1 (Aa j).2.1 (by rw[Wl];exact(Aa j).2.2)).mono ?_;rintro e w4 ⟨rfl,wv,r⟩;have E:=Ab r;clear r)
  |fail)
 all_goals go_ret
 all_goals (refine⟨rfl,f,wv,Aa Z,?_⟩;have:=Aa E;rw[Wm,I]at this;exact this)
theorem et{T:AK}(h:A3 w0 w q P T k)(o:T.ns[i]? =some x)(n a b:Int)(v:Value):
  Calls Tryz.prog 28 #[.pointer (some ⟨q,0,none⟩),.agg #[.int .i64 7,.int .i64 (i:Int),.int .i64 n,.int .i64 a,.int .i64 b,v]] w fun e w'=>e=.returned (.bool true)/\∃s:AZ,Hq x.n.p s/\A3 w0 w' q P (T.setN i x.g ⟨x.n.id,(x.n.inc+1)%4294967296,x.n.p,x.n.src,s,x.n.t+1⟩) (k+1):=by
 have O:=(List.getElem?_eq_some_iff.1 o).1;have Q:=h.net.few.1;have d:=Ax w (.cells (evC 7 i n a b v).toArray 42);have l:=Ab (AN 42 w (evC 7 i n a b v));have f:=h.below d;have u:=Ab (L9 q w0.heap.size T (i:Int) _ f.net);have I:=(Aa l).at 0 rfl;have J:=(Aa l).at 1 rfl;obtain⟨g,c,C,L⟩:=f.net.cell o;have c0:=f.net.blk.at 0 rfl;rw[C]at c0;have r:=Ab (fun wx (K:Below (w.alloc (.cells (evC 7 i n a b v).toArray 42)).heap.size (w.alloc (.cells (evC 7 i n a b v).toArray 42)) wx)=>kh (f.below K) o);have D:=Ab (show 0<=(i:Int)/\(i:Int)<T.ns.length by omega);have z:(i:Int)<(T.ns.length:Int):=by omega
 clear h f C d;simp only[evC]at l u I J c0 L r;go_enter Tryz.func28,Tryz.ntmps28
 go_wp2_with (first
  |(go_at_call 30;refine(Aa u).mono ?_;rintro e w1 ⟨⟨rfl, -⟩|⟨rfl,m⟩,j⟩;(rotate_left;exact absurd (Aa D) m);obtain rfl:=j.symm;clear j)
  |fail)
 go_quiet (fail)
 go_wp2_with (first
  |(go_at_call 51;refine(Aa r _ (by first|exact I4 (Below.refl _ _) _|exact(Below.refl _ _).drew)).mono ?_;rintro e w2 ⟨rfl,s,A,y⟩;have H:=Ab A;have E:=Ab y;clear A y)
  |fail)
 go_ret;exact⟨rfl,s,Aa H,Aa E⟩
def BX(d:Int)(n:Ao):Ao:=n.each (ID n.p.M n.p.queue d)
def FW(d:Int)(ns:List BS):Nat->List AG->List BS×List AG
 |0,fs=>(ns,fs)
 |k+1,fs=>match ns[k]? with
  |some x=>((FW d ns k fs).1.set k ⟨x.g,(BX d x.n).each Cx⟩,onto (FW d ns k fs).2 (flyTo (BX d x.n) x.n.s.ls.length))
  |none=>FW d ns k fs
theorem PK(d:Int)(ns:List BS):∀k fs j,k<=j->(FW d ns k fs).1[j]? =ns[j]?
 |0,fs,j,_=>rfl
 |k+1,fs,j,a=>by
  unfold FW;split
  ·show(List.set _ _ _)[j]? =_
   rw[List.getElem?_set,if_neg (by omega),PK d ns k fs j (by omega)]
  ·exact PK d ns k fs j (by omega)
def Fx(T:AK)(d:Int)(k:Nat)(wv:Value):AK:=⟨T.nv,(FW d T.ns k T.fs).1,min (T.now+d) 1099511627776,wv,(FW d T.ns k T.fs).2⟩
theorem ja{T:AK}{d:Int}(a:T.ns[k]? =some x)(v wv:Value):((((Fx T d k v).setN k x.g (BX d x.n)).setN k x.g ((BX d x.n).each Cx)).fly wv (onto (((Fx T d k v).setN k x.g (BX d x.n)).setN k x.g ((BX d x.n).each Cx)).fs (flyTo (BX d x.n) (BX d x.n).s.ls.length)))=Fx T d (k+1) wv:=by
 rw[Wm,show(BX d x.n).s.ls.length=x.n.s.ls.length from Fg];unfold Fx AK.fly AK.setN
 conv=>rhs;unfold FW
 rw[a]
theorem ir{T:AK}(h:A3 w0 w q P T k)(d:Int)(hd:0<=d/\d<=1048576):
  Calls Tryz.prog 27 #[.pointer (some ⟨q,0,none⟩),.int .i64 d] w fun e w'=>e=.returned (.tuple #[])/\∃wv,A3 w0 w' q P (Fx T d T.ns.length wv) (k+2*T.ns.length):=by
 have c1:=h.net.blk.at 1 rfl;have f1:=h.net.blk.frz 1;have C:=h.net.now0;have ac:IntKind.i64.wrap (T.now+d)=T.now+d:=by rw[IntKind.wrap_i64];omega
 have ab:=Iv (T.now+d) 1099511627776;have y:=h.net.blk.set 1 (.int .i64 (min (T.now+d) 1099511627776))
 have f:Hid (A3 w0 (w.setCell ⟨q,1,none⟩ (.int .i64 (min (T.now+d) 1099511627776))) q P (Fx T d 0 T.wv) (k+2*0)):=Ab (by
  have E:=Be w q 1 (.int .i64 (min (T.now+d) 1099511627776));have H:Tu (F0 q T) w _:=E.wide fun j e=>.inl e;refine⟨h.net.way H y (CO h.net.fly E fun j J e=>?_) h.net.few.2 (by omega),⟨fun i x I=>h.inv.node i x I,h.inv.fly⟩,h.net.lowB h.low (H.wide h.net.wayT)⟩;have:=Bu h.net.fly J;have:=h.net.blk.kd;subst e;omega)
 obtain⟨av,cv,p⟩:∃a c,T.nv=.slice a T.ns.length c:=by
  rcases h.net.own.2 with⟨e,h0⟩|⟨g,cap,aa,e,_⟩
  ·exact⟨none,0,by rw[e,h0]⟩
  ·exact⟨_,_,e⟩
 have n0:=(Aa f).net.blk.at 0 (show _=some (Value.slice av T.ns.length cv) from by rw[<-p];rfl);have h8:=h.net.few.1;have Y:=Ab p;clear h y C p;go_enter Tryz.func27,Tryz.ntmps27;go_wp2_with fail;go_loopw [21] (fun i wr=> ∃(m:Nat) (wv:Value),m<=T.ns.length/\i=.int .i64 m/\Hid (A3 w0 wr q P (Fx T d m wv) (k+2*m))) (fun i _=>T.ns.length-(intOf i).toNat)
 case atStart=>exact⟨0,T.wv,Nat.zero_le _,rfl,f⟩
 case round=>
  obtain⟨m,wv,hm,rfl,K⟩:=hrel;clear f n0;by_cases A:m<T.ns.length
  ·have W:(m:Int)<(T.ns.length:Int):=by omega
   obtain⟨x,I⟩:∃x,T.ns[m]? =some x:=⟨_,List.getElem?_eq_getElem A⟩;have b:(Fx T d m wv).ns[m]? =some x:=(PK d T.ns m T.fs m (Nat.le_refl _)).trans I;obtain⟨g,c,p,hc⟩:=(Aa K).net.cell b;have o:T.nv=.slice (some ⟨g,0,none⟩) (Fx T d m wv).ns.length c:=p;rw[Aa Y]at o;simp only[Value.slice.injEq]at o;obtain⟨rfl, -,rfl⟩:=o;have Z:=Ab I;have S:=Ab b;have X:=W8 b (BX d x.n);have R:=Ab X;clear I b p X
   go_wp2_with (first
    |(go_at_call 47;refine(pi (Aa K) (Aa S) d).mono ?_;rintro e w2 ⟨rfl,J⟩;have L:=Ab (show A3 w0 w2 q P ((Fx T d m wv).setN m x.g (BX d x.n)) (k+2*m+1) from J);clear J)
    |(go_at_call 49;refine(UW (Aa L) (Aa R)).mono ?_;rintro e w3 ⟨v,rfl,D,z,r,s⟩;have l:=Ab (And.intro D (And.intro z r));have O:=Ab s;clear D z r s)
    |(go_at_call 48;refine(Pn (Aa O) (Aa l).1 (Aa l).2.1 (by rw[Wl];exact(Aa l).2.2)).mono ?_;rintro e w4 ⟨rfl,V,u⟩;have Q:=Ab u;clear u)
    |fail)
   go_roundw
   case rel=>
    refine⟨m+1,V,A,by go_num,Ab ?_⟩;have:=Aa Q;rw[ja (Aa Z)]at this;exact this.more (by omega)
   case measure=>simp[intOf];omega
  ·obtain rfl:m=T.ns.length:=by omega
   go_wp2;go_end0;exact⟨rfl,wv,Aa K⟩
def Ic(s:ByteArray)(a b:Int):ByteArray:=st ((tx s).set (modZ a s.size).toNat ((tx s).getD (modZ a s.size).toNat 0^^^(b%256).toNat))
theorem jM(s:ByteArray)(a b:Int):(Ic s a b).size=s.size:=by rw[Ic,Dx,List.length_set,AT]
theorem ep(s:ByteArray)(a b:Int)(w:World)(W:0<s.size)(X:s.size<=1048576):
  Calls Tryz.prog 55 #[.string s,.int .i64 a,.int .i64 b] w fun e w'=>e=.returned (.string (Ic s a b))/\Below w.heap.size w w':=by
 have R:=WX (n:=a) (m:=(s.size:Int)) (by omega);have z:=Ab (fun wx=>TT a (s.size:Int) wx (by omega));obtain⟨w1,cap,L,r,C⟩:=fE w s;have c:=AT s;obtain⟨k,o⟩:∃k:Nat,modZ a s.size=(k:Int):=⟨(modZ a s.size).toNat,by omega⟩;have Q:k<s.size:=by omega
 have H:(k:Int)<(s.size:Int):=by omega
 obtain⟨y,v⟩:∃y:Nat,b%256=(y:Int):=⟨(b%256).toNat,by omega⟩;have g:y<256:=by omega
 have V:IntKind.u8.wrap b=(y:Int):=by rw[IntKind.wrap_u8',v]
 have d:=r;rw[<-c]at d;obtain⟨g',A,I,l,_,D,E⟩:=d.at (by omega);simp only[Value.slice.injEq,Option.some.injEq,Addr.mk.injEq,and_true,true_and]at I;obtain⟨rfl,rfl⟩:=I;have j:=D k (by omega);have O:=E k (by omega);have u:=r.1.get k;have f:=d.stored k ((tx s).getD k 0^^^y) (PO u g);rw[c]at f;have T:bits .xor .u8 (((tx s).getD k 0:Nat):Int) (y:Int)=(((tx s).getD k 0^^^y:Nat):Int):=u8_xor_nat _ y u g;have J:=Ab (C.setCell (p:=⟨w.heap.size,k,none⟩) (Nat.le_refl _) (.int .u8 (((tx s).getD k 0^^^y:Nat):Int)));have S:=f.text;have K:=Ab (show st ((tx s).set k ((tx s).getD k 0^^^y))=Ic s a b from by unfold Ic;rw[o,v];rfl);rw[o]at z;clear r d D E u f C c l R o v g;generalize st ((tx s).set k ((tx s).getD k 0^^^y))=Z at*;generalize (tx s).getD k 0^^^y=Y at*;generalize (tx s).getD k 0=x at*;go_enter Tryz.func55,Tryz.ntmps55
 go_wp2_with (first
  |(go_at_call 52;refine(Aa z _).mono ?_;rintro e w2 ⟨rfl,h⟩;obtain rfl:=h.symm;clear h)
  |fail)
 go_ret;exact⟨by rw[Aa K];rfl,Aa J⟩
end Go.Proofs.YtfpmnekaockodaaGreatDoor
