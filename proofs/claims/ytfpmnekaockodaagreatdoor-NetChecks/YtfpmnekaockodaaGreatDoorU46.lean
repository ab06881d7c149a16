/-
  Laws that the proof stands on.
-/
import Derived.Test.YtfpmnekaockodaaGreatDoorU45
namespace Go.Proofs.YtfpmnekaockodaaGreatDoor
open Go.RowKit Go.Sort
set_option linter.unusedVariables false
set_option linter.unusedSimpArgs false
set_option maxRecDepth 4000
set_option maxHeartbeats 8000000
variable {ok:Bool}{n:Ao}{x0 x1 x2:BS}{T T':AK}{a x y k k' g:Nat}{w:World}
structure Dt(T:AK)(x0 x1 x2:BS)(now:Int)(fs:List AG):Prop where
 ns:T.ns=[x0,x1,x2]
 now:T.now=now
 fs:T.fs=fs
theorem Vn{en:Int}(h:Br (Ey a x y) en):en=0:=by
 have hp:Lz (Ey a x y):=by
  refine⟨⟨⟨show 1<=3 by decide,show 3<=8 by decide⟩,⟨show(0:Int)<=0 by decide,show(0:Int)<=128 by decide⟩,⟨show(1:Int)<=4 by decide,show(4:Int)<=256 by decide⟩,⟨show(1:Int)<=4 by decide,show(4:Int)<=256 by decide⟩,⟨show(0:Int)<=0 by decide,show(0:Int)<=256 by decide⟩,⟨show(0:Int)<=5 by decide,show(5:Int)<=1048576 by decide⟩,show(1:Int)<=1 by decide,show(1:Int)<=128 by decide⟩,fun i d=>?_,by kernel_rfl⟩;have e:i<3:=d;obtain rfl|rfl|rfl:i=0\/i=1\/i=2:=by omega
  ·exact⟨⟨show(1:Int)<=1 by decide,show(1:Int)<=3 by decide⟩,show(1:Int)<3 by decide,fun j b=>by
    have c:j<1:=b;obtain rfl:j=0:=by omega
    exact⟨⟨show(0:Int)<=1 by decide,show(1:Int)<=3-1 by decide⟩,show(1:Int)≠0 by decide,fun k f=>by omega⟩⟩
  ·exact⟨⟨show(1:Int)<=2 by decide,show(2:Int)<=3 by decide⟩,show(1:Int)<3 by decide,fun j b=>by
    have c:j<1:=b;obtain rfl:j=0:=by omega
    exact⟨⟨show(0:Int)<=2 by decide,show(2:Int)<=3-1 by decide⟩,show(2:Int)≠1 by decide,fun k f=>by omega⟩⟩
  ·exact⟨⟨show(1:Int)<=3 by decide,show(3:Int)<=3 by decide⟩,show(0:Int)<3 by decide,fun j b=>by
    have c:j<0:=b;omega⟩
 rcases h with⟨_,h⟩|⟨h,_⟩
 ·exact h.trans (by kernel_rfl)
 ·exact absurd hp h
theorem lY{α:Type}:∀{l:List α},l.length=3->∃a b c,l=[a,b,c]
 |[a,b,c],_=>⟨a,b,c,rfl⟩
 |[],h=>by cases h
 |[_],h=>by cases h
 |[_,_],h=>by cases h
 |_::_::_::_::_,h=>by simp at h
theorem qH{w':World}{q:Nat}{P:Nat->A9}(h:GZ (Ey a x y) T)(i:A3 w w' q P T k):∃x0 x1 x2,Dt T x0 x1 x2 0 []/\CU x0.n/\CR x1.n/\CT x2.n:=by
 obtain⟨x0,x1,x2,e⟩:∃x0 x1 x2,T.ns=[x0,x1,x2]:=lY (h.len.trans rfl);have l:T.ns[0]? =some x0:=by rw[e];rfl
 have m:T.ns[1]? =some x1:=by rw[e];rfl
 have g2:T.ns[2]? =some x2:=by rw[e];rfl
 have c:=h.node 0 x0 l;have b:=h.node 1 x1 m;have f:=h.node 2 x2 g2;have s:=i.net.each 0 x0 l;have j:=i.net.each 1 x1 m;have E:=i.net.each 2 x2 g2;have B:x0.n.p.kd=1:=c.kd;have C:x1.n.p.kd=2:=b.kd;have D:x2.n.p.kd=3:=f.kd;have t0:x0.n.p.tos=[1]:=c.tos;have o:x1.n.p.tos=[2]:=b.tos;refine⟨x0,x1,x2,⟨e,h.now,h.fs⟩,⟨⟨c.id,c.inc⟩,Bh.new c.new c.queue,by rw[s.num.2.1,t0];rfl,t0,?_⟩,⟨⟨b.id,b.inc⟩,Bh.new b.new b.queue,by rw[j.num.2.1,o];rfl,o,?_,⟨b.timeout,b.cache,b.buffer,b.target⟩,?_,b.new.1.2.1,b.new.1.2.2.2⟩,⟨Bh.new f.new f.queue,⟨f.cache,f.buffer⟩,?_,f.new.1.2.2.2⟩⟩
 ·obtain⟨g,v,e⟩:=c.src B
  exact⟨g,v,e.trans (by kernel_rfl)⟩
 ·rcases j.kd with⟨k,_⟩|⟨_,k,_⟩|⟨k,_⟩
  ·omega
  ·exact k
  ·omega
 ·rcases b.new.2 with⟨_,_,r,z,_,hp⟩|⟨k,_⟩|⟨k,_⟩
  ·exact⟨r,z,hp⟩
  ·omega
  ·exact absurd C k
 ·rcases f.new.2 with⟨k,_⟩|⟨_,_,d,u,A,_⟩|⟨_,k,_⟩
  ·omega
  ·exact⟨d,u,A⟩
  ·exact absurd D k
theorem la(h:Dt T x0 x1 x2 0 [])(c:CU x0.n)(d:CR x1.n)(e:CT x2.n)(o:E9 T 1 0 3 0 0 [] k ok T' k'):ok=true/\k'=k+6/\∃i j l,Dt T' i j l 3 []/\CU i.n/\CR j.n/\CT l.n:=by
 obtain⟨m,wv,rfl,p⟩:=Yz o;have b:T.ns.length=3:=by rw[h.ns];rfl
 have f0:flyTo (BX 3 x0.n) x0.n.s.ls.length=[]:=c.rest.tick.fly _ (by rw[BX,Fg];exact Nat.le_refl _);have f1:flyTo (BX 3 x1.n) x1.n.s.ls.length=[]:=d.rest.tick.fly _ (by rw[BX,Fg];exact Nat.le_refl _);have f2:flyTo (BX 3 x2.n) x2.n.s.ls.length=[]:=e.rest.tick.fly _ (by rw[BX,Fg];exact Nat.le_refl _);have f:min (max (3:Int) 0) 1048576=3:=by decide
 have ht:FW 3 [x0,x1,x2] 3 []=([⟨x0.g,(BX 3 x0.n).each Cx⟩,⟨x1.g,(BX 3 x1.n).each Cx⟩,⟨x2.g,(BX 3 x2.n).each Cx⟩],[]):=by
  simp[FW,f0,f1,f2,onto]
 refine⟨m,by rw[p,b],⟨x0.g,(BX 3 x0.n).each Cx⟩,⟨x1.g,(BX 3 x1.n).each Cx⟩,⟨x2.g,(BX 3 x2.n).each Cx⟩,⟨?_,?_,?_⟩,c.tick,d.tick,e.tick⟩
 ·show(FW (min (max 3 0) 1048576) T.ns T.ns.length T.fs).1=_
  rw[b,h.ns,h.fs,f,ht]
 ·show min (T.now+min (max 3 0) 1048576) 1099511627776=3
  rw[h.now];decide
 ·show(FW (min (max 3 0) 1048576) T.ns T.ns.length T.fs).2=_
  rw[b,h.ns,h.fs,f,ht]
theorem UY(y:AG):onto [] [y]=[y]:=rfl
theorem qK(h:Dt T x0 x1 x2 3 [])(b:CU x0.n)(e:E9 T 2 0 0 0 0 [] k ok T' k'):ok=true/\k'=k+2/\∃m,Dt T' m x1 x2 3 [⟨0,1,FT 0 0 IE⟩]:=by
 obtain⟨d,f,wv,j,rfl,l⟩:=QS (i:=0) (x:=x0) e (by rw[h.ns];rfl);have c:=WF j b.em;rw[b.id.1,b.id.2]at c;refine⟨d,l,⟨x0.g,(EZ x0.n f).each Cx⟩,⟨?_,h.now,?_⟩⟩
 ·show T.ns.set 0 _=_
  rw[h.ns];rfl
 ·show onto T.fs (flyTo (EZ x0.n f) x0.n.s.ls.length)=_
  rw[h.fs,b.rest.act b.len,UY,b.id.1,b.tos,c];rfl
theorem qG(h:Dt T x0 x1 x2 3 [⟨0,1,FT 0 0 IE⟩])(l:CR x1.n)(o:E9 T 3 0 0 0 0 [] k ok T' k'):ok=true/\k'=k+1/\∃n,Dt T' x0 ⟨x1.g,n⟩ x2 3 []/\(n.id=1/\n.inc=0)/\Bh n/\n.s.ls.length=1/\n.p.tos=[2]/\C8 n []=some EH/\(Hp (C5 n.p.timeout) n.s.Z 3).length=1:=by
 obtain⟨m,f,wv,d,⟨_,y,en,n,j,i,rfl,q⟩|⟨c,_⟩|⟨c,_⟩|⟨c,_⟩⟩:=M0 o (by decide) (by rw[h.fs];exact List.cons_ne_nil _ _)
 ·have e:DU T 0=0:=by unfold DU;rw[h.fs];rfl
  rw[e,h.fs]at d;cases d;rw[h.ns]at j;have b:some x1=some y:=j;cases b;rw[h.now]at i;obtain⟨r,u,v,z,A,B⟩:=l.recv i;refine⟨m,q,n,⟨?_,h.now,?_⟩,r,u,v,z,A,B⟩
  ·show T.ns.set 1 _=_
   rw[h.ns];rfl
  ·show T.fs.eraseIdx (DU T 0)=[]
   rw[e,h.fs];rfl
 ·omega
 ·omega
 ·omega
theorem qI(h:Dt T x0 ⟨g,n⟩ x2 3 [])(b:n.id=1/\n.inc=0)(o:Bh n)(q:n.s.ls.length=1)(r:n.p.tos=[2])(u:C8 n []=some EH)(e:E9 T 2 1 0 0 0 [] k ok T' k'):ok=true/\k'=k+2/\∃m,Dt T' x0 ⟨g,m⟩ x2 3 [⟨1,2,FT 1 0 EH⟩]/\m.p=n.p/\m.s.Z=n.s.Z:=by
 obtain⟨d,f,wv,j,rfl,l⟩:=QS (i:=1) (x:=⟨g,n⟩) e (by rw[h.ns];rfl);have c:=WF j u;rw[b.1,b.2]at c;refine⟨d,l,(EZ n f).each Cx,⟨?_,h.now,?_⟩,rfl,rfl⟩
 ·show T.ns.set 1 _=_
  rw[h.ns];rfl
 ·show onto T.fs (flyTo (EZ n f) n.s.ls.length)=_
  rw[h.fs,o.act q,UY,b.1,r,c];rfl
theorem qF{y:AG}(h:Dt T x0 x1 x2 3 [y])(e:E9 T 5 0 0 0 0 [] k ok T' k'):ok=true/\k'=k/\Dt T' x0 x1 x2 3 [y,y]:=by
 obtain⟨d,f,wv,c,⟨b,_⟩|⟨b,_⟩|⟨_,rfl,j⟩|⟨b,_⟩⟩:=M0 e (by decide) (by rw[h.fs];exact List.cons_ne_nil _ _)
 ·omega
 ·omega
 ·have i:DU T 0=0:=by unfold DU;rw[h.fs];rfl
  rw[i,h.fs]at c;cases c;exact⟨d,j,h.ns,h.now,by show onto T.fs [y]=_;rw[h.fs];rfl⟩
 ·omega
theorem qJ(h:Dt T x0 x1 x2 3 [⟨1,2,FT 1 0 EH⟩,⟨1,2,FT 1 0 EH⟩])(l:CT x2.n)(o:E9 T 3 0 1 0 0 [] k ok T' k'):ok=true/\k'=k+1/\∃n,Dt T' x0 x1 ⟨x2.g,n⟩ 3 [⟨1,2,FT 1 0 EH⟩]/\GS n.s=true/\GU n.s=⟨#[97]⟩:=by
 obtain⟨m,f,wv,d,⟨_,y,en,n,j,i,rfl,p⟩|⟨c,_⟩|⟨c,_⟩|⟨c,_⟩⟩:=M0 o (by decide) (by rw[h.fs];exact List.cons_ne_nil _ _)
 ·have e:DU T 1=1:=by unfold DU;rw[h.fs];rfl
  rw[e,h.fs]at d;cases d;rw[h.ns]at j;have b:some x2=some y:=j;cases b;rw[h.now]at i;obtain⟨q,r⟩:=l.recv i;refine⟨m,p,n,⟨?_,h.now,?_⟩,q,r⟩
  ·show T.ns.set 2 _=_
   rw[h.ns];rfl
  ·show T.fs.eraseIdx (DU T 1)=_
   rw[e,h.fs];rfl
 ·omega
 ·omega
 ·omega
theorem lZ{y:AG}(h:Dt T x0 x1 x2 3 [y])(d:E9 T 4 0 0 0 0 [] k ok T' k'):ok=true/\k'=k/\Dt T' x0 x1 x2 3 []:=by
 obtain⟨c,f,wv,j,⟨b,_⟩|⟨_,rfl,i⟩|⟨b,_⟩|⟨b,_⟩⟩:=M0 d (by decide) (by rw[h.fs];exact List.cons_ne_nil _ _)
 ·omega
 ·have e:DU T 0=0:=by unfold DU;rw[h.fs];rfl
  exact⟨c,i,h.ns,h.now,by show T.fs.eraseIdx (DU T 0)=[];rw[e,h.fs];rfl⟩
 ·omega
 ·omega
theorem eM{tmps:Array Value}{W:World}{cs:List Value}(d:tmps.getD 0 undef=.pointer (some ⟨g,0,none⟩))(f:BkA 25 W g cs)(e:cs.length=10):(results Tryz.f21 tmps).run Tryz.prog W=.ok (.agg cs.toArray) W:=by
 have c:=f.load Tryz.underlying25 rfl KZ e;have b:tmps[0]?.getD undef=.pointer (some ⟨g,0,none⟩):=by simpa using d
 simp[results,Tryz.results21,asAddr,b,c]
theorem Vm(a x y:Nat):∀i,i<(Ey a x y).n->((Ey a x y).ds.getD i .dflt).n<=((Ey a x y).ds.getD i .dflt).c:=fun i b=>by
 have d:i<3:=b;obtain rfl|rfl|rfl:i=0\/i=1\/i=2:=by omega
 ·exact Nat.le_refl 1
 ·exact Nat.le_refl 1
 ·exact Nat.le_refl 0
theorem Vl(w:World):Calls Tryz.prog 21 #[] w fun e w'=> ∃a x y,e=.returned (Ey a x y).val/\BJ w' (Ey a x y)/\Below w.heap.size w w':=by
 have r:=Ab (show BkA 25 ((((w.alloc (.cells #[.slice none 0 0,.string ⟨#[]⟩,.int .i64 0,.int .i64 0,.int .i64 0,.int .i64 0,.int .i64 0,.float .f64 0,.int .i64 0,.int .i64 0] 25)).alloc (.cells #[.int .i64 1] 3)).alloc (.cells #[.int .i64 2] 3)).alloc (.cells #[.int .i64 1,.slice (some ⟨w.heap.size+1,0,none⟩) 1 1,.int .i64 2,.slice (some ⟨w.heap.size+1+1,0,none⟩) 1 1,.int .i64 3,.slice none 0 0] 29)) w.heap.size [.slice none 0 0,.string ⟨#[]⟩,.int .i64 0,.int .i64 0,.int .i64 0,.int .i64 0,.int .i64 0,.float .f64 0,.int .i64 0,.int .i64 0] from(((AN 25 w [.slice none 0 0,.string ⟨#[]⟩,.int .i64 0,.int .i64 0,.int .i64 0,.int .i64 0,.int .i64 0,.float .f64 0,.int .i64 0,.int .i64 0]).below (Ax _ _)).below (Ax _ _)).below (Ax _ _));go_enter Tryz.func21,Tryz.ntmps21
 go_wp2_with (first
  |((with_reducible refine K8 25 25 KZ 0 7 w.heap.size 0 _ [.slice (some ⟨w.heap.size+1+1+1,0,none⟩) 3 3,.string ⟨#[97]⟩,.int .i64 1,.int .i64 0,.int .i64 4,.int .i64 4,.int .i64 0,.float .f64 4607182418800017408,.int .i64 5,.int .i64 1] ?_ ?_ (Aa r) rfl ?_ ?_ ?_);(focus rfl);(focus rfl);(focus exact(show 0+10<=10 by decide));(focus exact(by simp[Value.oneCell']));intro v h b;have o:=Ab h;have m:=Ab b;clear h b)
  |fail)
 have b:=Aa m;refine bodyPost_ret (eM rfl (Aa o) rfl) rfl ⟨w.heap.size+1+1+1,w.heap.size+1,w.heap.size+1+1,rfl,⟨?_,show 3<=9223372036854775807 by decide,show 1<=9223372036854775807 by decide,show 4607182418800017408<18446744073709551616 by decide,fun i d=>?_,Vm _ _ _⟩,?_⟩
 ·have A:=((AN 3 (w.alloc (.cells #[.slice none 0 0,.string ⟨#[]⟩,.int .i64 0,.int .i64 0,.int .i64 0,.int .i64 0,.int .i64 0,.float .f64 0,.int .i64 0,.int .i64 0] 25)) [.int .i64 1]).below (Ax _ (.cells #[.int .i64 2] 3))).below (Ax _ (.cells #[.int .i64 1,.slice (some ⟨w.heap.size+1,0,none⟩) 1 1,.int .i64 2,.slice (some ⟨w.heap.size+1+1,0,none⟩) 1 1,.int .i64 3,.slice none 0 0] 29))
  have B:=(AN 3 ((w.alloc (.cells #[.slice none 0 0,.string ⟨#[]⟩,.int .i64 0,.int .i64 0,.int .i64 0,.int .i64 0,.int .i64 0,.float .f64 0,.int .i64 0,.int .i64 0] 25)).alloc (.cells #[.int .i64 1] 3)) [.int .i64 2]).below (Ax _ (.cells #[.int .i64 1,.slice (some ⟨w.heap.size+1,0,none⟩) 1 1,.int .i64 2,.slice (some ⟨w.heap.size+1+1,0,none⟩) 1 1,.int .i64 3,.slice none 0 0] 29));have C:=AN 29 (((w.alloc (.cells #[.slice none 0 0,.string ⟨#[]⟩,.int .i64 0,.int .i64 0,.int .i64 0,.int .i64 0,.int .i64 0,.float .f64 0,.int .i64 0,.int .i64 0] 25)).alloc (.cells #[.int .i64 1] 3)).alloc (.cells #[.int .i64 2] 3)) [.int .i64 1,.slice (some ⟨w.heap.size+1,0,none⟩) 1 1,.int .i64 2,.slice (some ⟨w.heap.size+1+1,0,none⟩) 1 1,.int .i64 3,.slice none 0 0];simp only[Bc]at A B C;have s:¬(w.heap.size+1=w.heap.size):=by omega
  have u:¬(w.heap.size+1+1=w.heap.size):=by omega
  have c:¬(w.heap.size+1+1+1=w.heap.size):=by omega
  refine⟨rfl,fun i d=>?_,.inr ⟨_,0,rfl,fun i d=>?_⟩⟩
  ·have f:i<3:=d
   obtain rfl|rfl|rfl:i=0\/i=1\/i=2:=by omega
   ·exact⟨rfl,.inr ⟨_,0,rfl,fun j l=>by
     have q:j<1:=l;obtain rfl:j=0:=by omega
     exact b.cell (A.at 0 rfl) s⟩⟩
   ·exact⟨rfl,.inr ⟨_,0,rfl,fun j l=>by
     have q:j<1:=l;obtain rfl:j=0:=by omega
     exact b.cell (B.at 0 rfl) u⟩⟩
   ·exact⟨rfl,.inl rfl⟩
  ·have f:i<3:=d
   obtain rfl|rfl|rfl:i=0\/i=1\/i=2:=by omega
   ·exact⟨b.cell (C.at 0 rfl) c,b.cell (C.at 1 rfl) c⟩
   ·exact⟨b.cell (C.at 2 rfl) c,b.cell (C.at 3 rfl) c⟩
   ·exact⟨b.cell (C.at 4 rfl) c,b.cell (C.at 5 rfl) c⟩
 ·have f:i<3:=d
  obtain rfl|rfl|rfl:i=0\/i=1\/i=2:=by omega
  ·exact⟨show 1<=9223372036854775807 by decide,fun e=>by have p:some (⟨w.heap.size+1,0,none⟩:Addr)=none:=e;cases p⟩
  ·exact⟨show 1<=9223372036854775807 by decide,fun e=>by have p:some (⟨w.heap.size+1+1,0,none⟩:Addr)=none:=e;cases p⟩
  ·exact⟨show 0<=9223372036854775807 by decide,fun _=>⟨rfl,rfl⟩⟩
 ·exact(Ad (Ad (Ad (Ax _ _) (Ax _ _)) (Ax _ _)) (Ax _ _)).trans (b.below (Ad (Ad (Ad (Ax _ _) (Ax _ _)) (Ax _ _)) (Ax _ _)).size fun j l e=>by omega)
def zF:Bl:=⟨none,0,0,[],⟨#[]⟩,0,0,0,0,0,0,0,0⟩
theorem bL(w:World):BJ w zF:=⟨⟨rfl,fun i b=>absurd b (Nat.not_lt_zero i),.inl rfl⟩,Nat.zero_le _,Nat.zero_le _,(by decide:0<18446744073709551616),(fun i b=>absurd b (Nat.not_lt_zero i)),fun i b=>absurd b (Nat.not_lt_zero i)⟩
theorem bS{en:Int}(h:Br zF en):en=1:=by
 rcases h with⟨h,_⟩|⟨_,h⟩
 ·exact absurd h.1.1.1 (show¬1<=0 by decide)
 ·exact h
theorem ZH(w:World):Calls Tryz.prog 9 #[.agg #[.slice none 0 0,.string ⟨#[]⟩,.int .i64 0,.int .i64 0,.int .i64 0,.int .i64 0,.int .i64 0,.float .f64 0,.int .i64 0,.int .i64 0]] w fun e w'=>e=.returned (.tuple #[.pointer none,.int .i64 1])/\Below w.heap.size w w':=
 (Ot zF w (bL w)).mono fun e w' ⟨b,en,c,h⟩=>by
  obtain rfl:=bS c;rcases h with⟨_,h⟩|⟨h,_⟩
  ·exact⟨h,b⟩
  ·exact absurd h (by decide)
theorem ZG(h:BJ w (Ey a x y)):Calls Tryz.prog 9 #[(Ey a x y).val] w fun e w'=> ∃(q:Nat) (T:AK) (P:Nat->A9) (x0 x1 x2:BS),e=.returned (.tuple #[.pointer (some ⟨q,0,none⟩),.int .i64 0])/\A3 w w' q P T 0/\Dt T x0 x1 x2 0 []/\CU x0.n/\CR x1.n/\CT x2.n:=
 (Ot (Ey a x y) w h).mono fun e w' ⟨_,en,o,l⟩=>by
  rcases l with⟨b,_⟩|⟨_,q,T,j,m,c⟩
  ·exact absurd (Vn o) b
  ·obtain⟨x0,x1,x2,b,d,f,i⟩:=qH m c
   exact⟨q,T,_,x0,x1,x2,j,c,b,d,f,i⟩
theorem ZF(h:BJ w (Ey a x y)):Calls Tryz.prog 10 #[(Ey a x y).val] w fun e w'=>e=.returned (.int .i64 0)/\Below w.heap.size w w':=
 (Oq (Ey a x y) w h (Vm a x y)).mono fun e w' ⟨en,c,d,b⟩=>⟨by rw[c,Vn d],b⟩
theorem Xh{fs:List AG}(h:Dt T x0 x1 ⟨g,n⟩ 3 fs)(f:GS n.s=true)(i:GU n.s=⟨#[97]⟩):∃a b c d e:Int,Hv T 2=[.int .i64 a,.int .i64 b,.int .i64 c,.int .i64 d,.int .i64 e,.bool true,.string ⟨#[97]⟩]:=by
 unfold Hv;rw[if_pos (by decide),show(2:Int).toNat=2 from rfl,h.ns];show∃a b c d e:Int,Hu n T.now=_;unfold Hu;rw[f,i];exact⟨_,_,_,_,_,rfl⟩
theorem rW{fs:List AG}(h:Dt T x0 ⟨g,n⟩ x2 3 fs)(f:(Hp (C5 n.p.timeout) n.s.Z 3).length=1):∃(a b c d:Int) (e:Bool) (s:ByteArray),Hv T 1=[.int .i64 a,.int .i64 b,.int .i64 c,.int .i64 d,.int .i64 1,.bool e,.string s]:=by
 unfold Hv;rw[if_pos (by decide),show(1:Int).toNat=1 from rfl,h.ns,h.now];show∃(a b c d:Int) (e:Bool) (s:ByteArray),Hu n 3=_;unfold Hu;rw[f];exact⟨_,_,_,_,_,_,rfl⟩
theorem WT{w0:World}{q:Nat}{P:Nat->A9}{l:List AG}(h:A3 w0 w q P T k)(o:T.fs=l):Calls Tryz.prog 15 #[.pointer (some ⟨q,0,none⟩)] w fun e w'=> ∃a c,e=.returned (.slice a l.length c)/\Ap w' w.heap.size (.slice a l.length c) l/\Below w.heap.size w w':=
 (ke q w0.heap.size T w h.net fun f m=>(h.inv.fly f m).2.2).mono fun e w' ⟨v,j,b,i⟩=>by
  obtain⟨a,c,d⟩:=b.len;rw[o]at d b;exact⟨a,c,by rw[j,d],d▸b,i⟩
theorem ZM(a b c d e:Int)(f:Bool)(s:ByteArray)(w:World):(Instr.field 44 (.agg #[.int .i64 a,.int .i64 b,.int .i64 c,.int .i64 d,.int .i64 e,.bool f,.string s]) 4).run Tryz.prog w=.ok (.int .i64 e) w:=by kernel_rfl
theorem ZN(a b c d e:Int)(f:Bool)(s:ByteArray)(w:World):(Instr.field 44 (.agg #[.int .i64 a,.int .i64 b,.int .i64 c,.int .i64 d,.int .i64 e,.bool f,.string s]) 5).run Tryz.prog w=.ok (.bool f) w:=by kernel_rfl
theorem ZO(a b c d e:Int)(f:Bool)(s:ByteArray)(w:World):(Instr.field 44 (.agg #[.int .i64 a,.int .i64 b,.int .i64 c,.int .i64 d,.int .i64 e,.bool f,.string s]) 6).run Tryz.prog w=.ok (.string s) w:=by kernel_rfl
theorem er(w:World)(ht:Bt w):Calls Tryz.prog 8 #[] w fun e w'=>e=.returned (.bool true)/\Below w.heap.size w w':=by
 have HT:=Ab ht;clear ht;have y4:=ZM;have y5:=ZN;have y6:=ZO;have FA:=Ab True.intro;have FB:=Ab True.intro;have FC:=Ab True.intro;have FD:=Ab True.intro;have FE:=Ab True.intro;have FF:=Ab True.intro;have FG:=Ab True.intro;have FH:=Ab True.intro;have FI:=Ab True.intro;have FJ:=Ab True.intro;have FK:=Ab True.intro;have FL:=Ab True.intro;have FN:=Ab True.intro;have FO:=Ab True.intro;have FP:=Ab True.intro;have FQ:=Ab True.intro;have FR:=Ab True.intro;go_enter Tryz.func8,Tryz.ntmps8
 go_wp2_with (first
  |(clear FA;go_at_call 21;refine(Vl _).mono ?_;rintro e w1 ⟨a1,x1,y1,rfl,I,o⟩;have z:=Ab (ZG I);have V:=Ab o;have d:=Ab ((Aa HT).below o);clear I o)
  |(clear FB;go_at_call 9;refine(Aa z).mono ?_;rintro e w2 ⟨q,T0,P,n0,n1,n2,rfl,c,b,s0,s1,s2⟩;have J1:=Ab c;have r:=Ab (And.intro b (And.intro s0 (And.intro s1 s2)));clear c b s0 s1 s2 z)
  |(clear FC;go_at_call 9;refine(ZH _).mono ?_;rintro e w3 ⟨rfl,f⟩;have J2:=Ab ((Aa J1).below f);clear f J1)
  |(clear FD;go_at_call 13;refine(Hf (Aa J2) (Aa d) (by decide) 1 0 3 0 0 0 (Dv _) (Nat.zero_le _)).mono ?_;rintro e w4 ⟨ok,T1,k1,rfl,b,c⟩;obtain⟨rfl,rfl,m0,m1,m2,d2,s0,s1,s2⟩:=la (Aa r).1 (Aa r).2.1 (Aa r).2.2.1 (Aa r).2.2.2 b;have J3:=Ab c;have u:=Ab (And.intro d2 (And.intro s0 (And.intro s1 s2)));clear c b d2 s0 s1 s2 J2 r)
  |(clear FE;go_at_call 13;refine(Hf (Aa J3) (Aa d) (by decide) 2 0 0 0 0 0 (Dv _) (Nat.zero_le _)).mono ?_;rintro e w5 ⟨ok,T2,k2,rfl,b,c⟩;obtain⟨rfl,rfl,o0,d3⟩:=qK (Aa u).1 (Aa u).2.1 b;have X:=Ab c;have v:=Ab (And.intro d3 (And.intro (Aa u).2.2.1 (Aa u).2.2.2));clear c b d3 J3 u)
  |(clear FF;go_at_call 15;refine(WT (Aa X) (Aa v).1.fs).mono ?_;rintro e w6 ⟨a2,c2,rfl, -,f⟩;have J5:=Ab ((Aa X).below f);clear f X)
  |(clear FG;go_at_call 13;refine(Hf (Aa J5) (Aa d) (by decide) 3 0 0 0 0 0 (Dv _) (Nat.zero_le _)).mono ?_;rintro e w7 ⟨ok,T3,k3,rfl,b,c⟩;obtain⟨rfl,rfl,u1,d4,L,N,q3,q4,q5,q6⟩:=qG (Aa v).1 (Aa v).2.1 b;have J6:=Ab c;have D4:=Ab d4;have m:=Ab (And.intro L (And.intro N (And.intro q3 (And.intro q4 (And.intro q5 q6)))));have S4:=Ab (Aa v).2.2;clear c b d4 L N q3 q4 q5 q6 J5 v)
  |(clear FH;go_at_call 13;refine(Hf (Aa J6) (Aa d) (by decide) 2 1 0 0 0 0 (Dv _) (Nat.zero_le _)).mono ?_;rintro e w8 ⟨ok,T4,k4,rfl,b,c⟩;obtain⟨rfl,rfl,v1,d5,p1,p2⟩:=qI (Aa D4) (Aa m).1 (Aa m).2.1 (Aa m).2.2.1 (Aa m).2.2.2.1 (Aa m).2.2.2.2.1 b;have J7:=Ab c;have D5:=Ab d5;have Q5:=Ab (show(Hp (C5 v1.p.timeout) v1.s.Z 3).length=1 from by rw[p1,p2];exact(Aa m).2.2.2.2.2);clear c b d5 p1 p2 J6 D4 m)
  |(clear FI;go_at_call 13;refine(Hf (Aa J7) (Aa d) (by decide) 5 0 0 0 0 0 (Dv _) (Nat.zero_le _)).mono ?_;rintro e w9 ⟨ok,T5,k5,rfl,b,c⟩;obtain⟨rfl,rfl,d6⟩:=qF (Aa D5) b;have Y:=Ab c;have S:=Ab d6;clear c b d6 J7 D5)
  |(clear FJ;go_at_call 15;refine(WT (Aa Y) (Aa S).fs).mono ?_;rintro e aa ⟨a3,c3,rfl, -,f⟩;have J9:=Ab ((Aa Y).below f);clear f Y)
  |(clear FK;go_at_call 13;refine(Hf (Aa J9) (Aa d) (by decide) 3 0 1 0 0 0 (Dv _) (Nat.zero_le _)).mono ?_;rintro e ab ⟨ok,T6,k6,rfl,b,c⟩;obtain⟨rfl,rfl,z1,d7,L,N⟩:=qJ (Aa S) (Aa S4) b;have B:=Ab c;have D7:=Ab d7;have Q:=Ab (And.intro L N);clear c b d7 L N J9 S S4)
  |(clear FL;go_at_call 13;refine(Hf (Aa B) (Aa d) (by decide) 4 0 0 0 0 0 (Dv _) (Nat.zero_le _)).mono ?_;rintro e ac ⟨ok,R,k7,rfl,b,c⟩;obtain⟨rfl,rfl,d8⟩:=lZ (Aa D7) b;have i:=Ab c;have O:=Ab d8;have K:=d8.now;clear c b d8 B D7)
  |(go_at_call 20;refine(ki q w1.heap.size R _ (Aa i).net).mono ?_;rintro e ad ⟨rfl,hw⟩;obtain rfl:=hw.symm;clear hw;rw[K])
  |(clear FN;go_at_call 14;obtain⟨r0,r1,r2,r3,r4,h⟩:=Xh (Aa O) (Aa Q).1 (Aa Q).2;refine(Ou q w1.heap.size R 2 _ (Aa i).net ((Aa i).tabs (Aa d) _ (Below.refl _ _)).tab).mono ?_;rw[h];rintro e ae ⟨rfl,f⟩;have j:=Ab ((Aa i).below f);clear f i h)
  |(clear FO;go_at_call 14;obtain⟨t0,t1,t2,t3,t4,h⟩:=Xh (Aa O) (Aa Q).1 (Aa Q).2;refine(Ou q w1.heap.size R 2 _ (Aa j).net ((Aa j).tabs (Aa d) _ (Below.refl _ _)).tab).mono ?_;rw[h];rintro e af ⟨rfl,f⟩;have l:=Ab ((Aa j).below f);clear f j h)
  |(clear FP;go_at_call 14;obtain⟨l0,l1,l2,l3,l4,l5,h⟩:=rW (Aa O) (Aa Q5);refine(Ou q w1.heap.size R 1 _ (Aa l).net ((Aa l).tabs (Aa d) _ (Below.refl _ _)).tab).mono ?_;rw[h];rintro e ag ⟨rfl,f⟩;have C:=Ab ((Aa l).below f);clear f l h)
  |(clear FQ;go_at_call 13;refine(Hf (Aa C) (Aa d) (by decide) 4 0 0 0 0 0 (Dv _) (Nat.zero_le _)).mono ?_;rintro e ah ⟨ok,T8,k8,rfl,b,c⟩;obtain⟨rfl,rfl,rfl⟩:=Ri b (.inr (.inr ⟨by decide,(Aa O).fs⟩));have D:=Ab c;clear c b C)
  |(clear FR;go_at_call 13;refine(Hf (Aa D) (Aa d) (by decide) 8 0 0 0 0 0 (Dv _) (Nat.zero_le _)).mono ?_;rintro e ai ⟨ok,T9,k9,rfl,b,c⟩;obtain⟨rfl,rfl,rfl⟩:=Ri b (.inl (.inr (by decide)));have E:=Ab c;clear c b D)
  |(go_at_call 21;refine(Vl _).mono ?_;rintro e aj ⟨a9,x9,y9,rfl,J,f⟩;have A:=Ab (ZF J);have H:=Ab ((Aa E).below f);clear J f E)
  |(go_at_call 10;refine(Aa A).mono ?_;rintro e ak ⟨rfl,f⟩;have W:=Ab ((Aa H).below f);clear f H A)
  |fail)
 go_ret;exact⟨rfl,Ad (Aa V) (Aa W).low⟩
theorem iD(f:Bl)(w:World)(h:BJ w f):Calls Tryz.prog 11 #[f.val] w fun e w'=> ∃en:Int,e=.returned (.int .i64 en)/\Br f en/\Below w.heap.size w w':=by
 have i:=Ab (Ax w (.cells #[.slice f.a f.n f.c,.string f.obj,.int .i64 f.size,.int .i64 f.spread,.int .i64 f.buffer,.int .i64 f.queue,.int .i64 f.cache,.float .f64 f.rate,.int .i64 f.timeout,.int .i64 f.target] 25));have l:=Ab (fun wx (b:Below w.heap.size w wx)=>rP f wx (h.below b));have o:=(AN 25 w [.slice f.a f.n f.c,.string f.obj,.int .i64 f.size,.int .i64 f.spread,.int .i64 f.buffer,.int .i64 f.queue,.int .i64 f.cache,.float .f64 f.rate,.int .i64 f.timeout,.int .i64 f.target]).load Tryz.underlying25 rfl KZ rfl;clear h;unfold Bl.val at*;go_enter Tryz.func11,Tryz.ntmps11
 go_wp2_with (first
  |(go_at_call 26;refine(Aa l _ (by first|exact Aa i|exact Below.refl _ _)).mono ?_;rintro e w1 ⟨en,rfl,j,b⟩;have m:=Ab j;have d:=Ab (show Below w.heap.size w w1 from by first|exact Ad (Aa i) b|exact b);clear b j)
  |fail)
 go_ret;exact⟨en,rfl,Aa m,Aa d⟩
theorem dC(f:Bl)(w:World)(ht:Bt w)(N:BJ w f):Calls Tryz.prog 3 #[f.val] w fun e w'=>e=.returned (.bool true)/\Below w.heap.size w w':=by
 have hl:=N.len;have ho:=N.obj;have X:=Ab (AN 25 w [.slice f.a f.n f.c,.string f.obj,.int .i64 f.size,.int .i64 f.spread,.int .i64 f.buffer,.int .i64 f.queue,.int .i64 f.cache,.float .f64 f.rate,.int .i64 f.timeout,.int .i64 f.target]);have z:=Ab (Ax w (.cells #[.slice f.a f.n f.c,.string f.obj,.int .i64 f.size,.int .i64 f.spread,.int .i64 f.buffer,.int .i64 f.queue,.int .i64 f.cache,.float .f64 f.rate,.int .i64 f.timeout,.int .i64 f.target] 25));have I:=Ab (fun wx (s:Below w.heap.size w wx)=>er wx (ht.below s));have J:=Ab (fun wx (s:Below w.heap.size w wx)=>N.below s);have ad:=(Aa X).load Tryz.underlying25 rfl KZ rfl;clear ht N;unfold Bl.val at*;by_cases h0:(100:Int)<(f.n:Int)
 ·go_enter Tryz.func3,Tryz.ntmps3
  go_wp2_with (first
   |(go_at_call 8;refine(Aa I _ (Aa z)).mono ?_;rintro e w1 ⟨rfl,j⟩;have m:=Ab (Ad (Aa z) j);clear j)
   |fail)
  go_ret;exact⟨rfl,Aa m⟩
 by_cases h1:(20000:Int)<(f.obj.size:Int)
 ·go_enter Tryz.func3,Tryz.ntmps3
  go_wp2_with (first
   |(go_at_call 8;refine(Aa I _ (Aa z)).mono ?_;rintro e w1 ⟨rfl,j⟩;have m:=Ab (Ad (Aa z) j);clear j)
   |fail)
  go_ret;exact⟨rfl,Aa m⟩
 go_enter Tryz.func3,Tryz.ntmps3;go_wp2_with fail;have O:=Ab (Aa J _ (Aa z));generalize hW:w.alloc (.cells #[.slice f.a f.n f.c,.string f.obj,.int .i64 f.size,.int .i64 f.spread,.int .i64 f.buffer,.int .i64 f.queue,.int .i64 f.cache,.float .f64 f.rate,.int .i64 f.timeout,.int .i64 f.target] 25)=W at*;clear hW;have x0:=(Aa X).at 0 rfl;go_loop [3] (fun i=> ∃k:Nat,k<=f.n/\i=.int .i64 k) (fun i=>f.n-(intOf i).toNat)
 case atStart=>exact⟨0,Nat.zero_le _,rfl⟩
 case round=>
  obtain⟨k,hk,rfl⟩:=hrel;by_cases u:k<f.n
  ·have aa:(k:Int)<(f.n:Int):=by omega
   obtain⟨b,off,ha,hc⟩:=(Aa O).nds.at u;obtain⟨ab,ac⟩:=hc k u;rw[ha]at x0;have ae:=((Aa O).tos k u).1;clear hc;generalize f.ds.getD k .dflt=d at*;by_cases h2:(100:Int)<(d.n:Int)
   ·go_wp2_with (first
     |(go_at_call 8;refine(Aa I _ (Aa z)).mono ?_;rintro e w1 ⟨rfl,j⟩;have m:=Ab (Ad (Aa z) j);clear j)
     |fail)
    go_ret;exact⟨rfl,Aa m⟩
   ·go_wp2
    go_round
    case rel=>exact⟨k+1,u,by go_num⟩
    case measure=>simp[intOf];omega
  ·obtain rfl:k=f.n:=by omega
   have P:=Ab (Ot f W (Aa O));unfold Bl.val at P;have y0:=(Aa X).at 0 rfl;have y1:=(Aa X).at 1 rfl;have y2:=(Aa X).at 2 rfl;have y3:=(Aa X).at 3 rfl;have y4:=(Aa X).at 4 rfl;have y5:=(Aa X).at 5 rfl;have y6:=(Aa X).at 6 rfl;have y7:=(Aa X).at 7 rfl;have y8:=(Aa X).at 8 rfl;have y9:=(Aa X).at 9 rfl;go_wp2_with fail;refine(Aa P).mono ?_;rintro e w2 ⟨B,en,Z,A⟩;obtain⟨p,h,rfl,C,rfl⟩:∃(p:Option Addr) (h:Int),e=.returned (.tuple #[.pointer p,.int .i64 h])/\((p=none)↔h≠0)/\h=en:=by
    rcases A with⟨R,S⟩|⟨R,q,T,S,_⟩
    ·exact⟨none,en,S,⟨fun _=>R,fun _=>rfl⟩,rfl⟩
    ·exact⟨some ⟨q,0,none⟩,0,S,⟨(fun e=>by cases e),fun e=>absurd rfl e⟩,R.symm⟩
   have E:=Ab (Ad (Aa z) B);have o:=(Aa X).below B;have k0:=cell_regrown (o.at 0 rfl);have k1:=cell_regrown (o.at 1 rfl);have k2:=cell_regrown (o.at 2 rfl);have k3:=cell_regrown (o.at 3 rfl);have k4:=cell_regrown (o.at 4 rfl);have k5:=cell_regrown (o.at 5 rfl);have k6:=cell_regrown (o.at 6 rfl);have k7:=cell_regrown (o.at 7 rfl);have k8:=cell_regrown (o.at 8 rfl);have k9:=cell_regrown (o.at 9 rfl);have c1:=Cd (W:=w2) (fun w' s=>(Oq f w' ((Aa J) w' (Ad (Aa E) s)) ((Aa J) w' (Ad (Aa E) s)).caps).mono (R':=fun e r=>e=.returned (.int .i64 h)/\Below w'.heap.size w' r) fun e r ⟨Q,Y,D,l⟩=>⟨by rw[Y,D.uniq Z],l⟩);have c2:=Cd (W:=w2) (fun w' s=>(iD f w' ((Aa J) w' (Ad (Aa E) s))).mono (R':=fun e r=>e=.returned (.int .i64 h)/\Below w'.heap.size w' r) fun e r ⟨Q,Y,D,l⟩=>⟨by rw[Y,D.uniq Z],l⟩);have c5:=Cd (W:=w2) (fun w' s=>(Aa I) w' (Ad (Aa E) s));unfold Bl.val at c1 c2;have V:(p=none/\(h !=0)=true)\/(∃g,p=some g/\h=0):=by
    cases p with
    |none=>exact .inl ⟨rfl,by simp[C.1 rfl]⟩
    |some g=>exact .inr ⟨g,rfl,Decidable.byContradiction fun e=>by cases C.2 e⟩
   clear Z A P o B C y0 y1 y2 y3 y4 y5 y6 y7 y8 y9;rcases V with⟨rfl,hd⟩|⟨g,rfl,rfl⟩
   all_goals go_wp2_with fail
   all_goals refine wp_region_quiet_below (by kernel_rfl) (by kernel_rfl) ?_
   all_goals (
    repeat (with_reducible refine wpQuiet_step (fun K L=>?_);go_simp;first|(with_reducible refine L _ ?_;clear L K)|(apply Exists.intro;apply And.intro;(intro _;first|(go_at_call 10;exact c1 _ _)|(go_at_call 11;exact c2 _ _)|(go_at_call 8;exact c5 _ _));with_reducible refine L _ ?_;clear L K))
    refine wpQuiet_nil ?_;intro w3 v;obtain⟨⟨dq,H⟩,v⟩:=v;have l:Below w2.heap.size w2 w3:=by rw[v];exact below_regrown _ dq H
    have B3:=Ab (Ad (Aa E) l);clear v l dq H;go_wp2;go_ret;exact⟨rfl,Aa B3⟩)
end Go.Proofs.YtfpmnekaockodaaGreatDoor
