/-
  Laws that the proof stands on.
-/
import Derived.Test.YtmmikiikddokgaaGreatDoorU45
namespace Go.Proofs.YtmmikiikddokgaaGreatDoor
open Go.RowKit Go.Sort
set_option linter.unusedVariables false
set_option linter.unusedSimpArgs false
set_option maxRecDepth 4000
set_option maxHeartbeats 8000000
variable {ok:Bool}{n:Ao}{x0 x1 x2:BN}{T T':AK}{a x y k k' g:Nat}{w:World}
structure Dt(T:AK)(x0 x1 x2:BN)(now:Int)(fs:List AG):Prop where
 ns:T.ns=[x0,x1,x2]
 now:T.now=now
 fs:T.fs=fs
theorem U7{en:Int}(h:Cm (Ev a x y) en):en=0:=by
 have hp:Lq (Ev a x y):=by
  refine⟨⟨⟨show 1<=3 by decide,show 3<=8 by decide⟩,⟨show(0:Int)<=0 by decide,show(0:Int)<=128 by decide⟩,⟨show(1:Int)<=4 by decide,show(4:Int)<=256 by decide⟩,⟨show(1:Int)<=4 by decide,show(4:Int)<=256 by decide⟩,⟨show(0:Int)<=0 by decide,show(0:Int)<=256 by decide⟩,⟨show(0:Int)<=5 by decide,show(5:Int)<=1048576 by decide⟩,show(1:Int)<=1 by decide,show(1:Int)<=128 by decide⟩,fun i d=>?_,by kernel_rfl⟩;have e:i<3:=d;obtain rfl|rfl|rfl:i=0\/i=1\/i=2:=by omega
  ·exact⟨⟨show(1:Int)<=1 by decide,show(1:Int)<=3 by decide⟩,show(1:Int)<3 by decide,fun j b=>by
    have c:j<1:=b;obtain rfl:j=0:=by omega
    exact⟨⟨show(0:Int)<=1 by decide,show(1:Int)<=3-1 by decide⟩,show(1:Int)≠0 by decide,fun k f=>by omega⟩⟩
  ·exact⟨⟨show(1:Int)<=2 by decide,show(2:Int)<=3 by decide⟩,show(1:Int)<3 by decide,fun j b=>by
    have c:j<1:=b;obtain rfl:j=0:=by omega
    exact⟨⟨show(0:Int)<=2 by decide,show(2:Int)<=3-1 by decide⟩,show(2:Int)≠1 by decide,fun k f=>by omega⟩⟩
  ·exact⟨⟨show(1:Int)<=3 by decide,show(3:Int)<=3 by decide⟩,show(0:Int)<3 by decide,fun j b=>by
    have c:j<0:=b;omega⟩
 rcases h with⟨_,h⟩|⟨h,_⟩
 ·exact h.trans (by kernel_rfl)
 ·exact absurd hp h
theorem lF{α:Type}:∀{l:List α},l.length=3->∃a b c,l=[a,b,c]
 |[a,b,c],_=>⟨a,b,c,rfl⟩
 |[],h=>by cases h
 |[_],h=>by cases h
 |[_,_],h=>by cases h
 |_::_::_::_::_,h=>by simp at h
theorem pr{w':World}{q:Nat}{P:Nat->A9}(h:GV (Ev a x y) T)(i:A3 w w' q P T k):∃x0 x1 x2,Dt T x0 x1 x2 0 []/\CT x0.n/\CQ x1.n/\CR x2.n:=by
 obtain⟨x0,x1,x2,e⟩:∃x0 x1 x2,T.ns=[x0,x1,x2]:=lF (h.len.trans rfl);have l:T.ns[0]? =some x0:=by rw[e];rfl
 have m:T.ns[1]? =some x1:=by rw[e];rfl
 have g2:T.ns[2]? =some x2:=by rw[e];rfl
 have c:=h.node 0 x0 l;have b:=h.node 1 x1 m;have f:=h.node 2 x2 g2;have s:=i.net.each 0 x0 l;have j:=i.net.each 1 x1 m;have E:=i.net.each 2 x2 g2;have B:x0.n.p.kd=1:=c.kd;have C:x1.n.p.kd=2:=b.kd;have D:x2.n.p.kd=3:=f.kd;have t0:x0.n.p.tos=[1]:=c.tos;have o:x1.n.p.tos=[2]:=b.tos;refine⟨x0,x1,x2,⟨e,h.now,h.fs⟩,⟨⟨c.id,c.inc⟩,Bh.new c.new c.queue,by rw[s.num.2.1,t0];rfl,t0,?_⟩,⟨⟨b.id,b.inc⟩,Bh.new b.new b.queue,by rw[j.num.2.1,o];rfl,o,?_,⟨b.timeout,b.cache,b.buffer,b.target⟩,?_,b.new.1.2.1,b.new.1.2.2.2⟩,⟨Bh.new f.new f.queue,⟨f.cache,f.buffer⟩,?_,f.new.1.2.2.2⟩⟩
 ·obtain⟨g,v,e⟩:=c.src B
  exact⟨g,v,e.trans (by kernel_rfl)⟩
 ·rcases j.kd with⟨k,_⟩|⟨_,k,_⟩|⟨k,_⟩
  ·omega
  ·exact k
  ·omega
 ·rcases b.new.2 with⟨_,_,r,z,_,hp⟩|⟨k,_⟩|⟨k,_⟩
  ·exact⟨r,z,hp⟩
  ·omega
  ·exact absurd C k
 ·rcases f.new.2 with⟨k,_⟩|⟨_,_,d,u,A,_⟩|⟨_,k,_⟩
  ·omega
  ·exact⟨d,u,A⟩
  ·exact absurd D k
theorem lH(h:Dt T x0 x1 x2 0 [])(c:CT x0.n)(d:CQ x1.n)(e:CR x2.n)(o:E6 T 1 0 3 0 0 [] k ok T' k'):ok=true/\k'=k+6/\∃i j l,Dt T' i j l 3 []/\CT i.n/\CQ j.n/\CR l.n:=by
 obtain⟨m,wv,rfl,p⟩:=Yj o;have b:T.ns.length=3:=by rw[h.ns];rfl
 have f0:flyTo (BS 3 x0.n) x0.n.s.ls.length=[]:=c.rest.tick.fly _ (by rw[BS,Fc];exact Nat.le_refl _);have f1:flyTo (BS 3 x1.n) x1.n.s.ls.length=[]:=d.rest.tick.fly _ (by rw[BS,Fc];exact Nat.le_refl _);have f2:flyTo (BS 3 x2.n) x2.n.s.ls.length=[]:=e.rest.tick.fly _ (by rw[BS,Fc];exact Nat.le_refl _);have f:min (max (3:Int) 0) 1048576=3:=by decide
 have ht:FS 3 [x0,x1,x2] 3 []=([⟨x0.g,(BS 3 x0.n).each Cw⟩,⟨x1.g,(BS 3 x1.n).each Cw⟩,⟨x2.g,(BS 3 x2.n).each Cw⟩],[]):=by
  simp[FS,f0,f1,f2,onto]
 refine⟨m,by rw[p,b],⟨x0.g,(BS 3 x0.n).each Cw⟩,⟨x1.g,(BS 3 x1.n).each Cw⟩,⟨x2.g,(BS 3 x2.n).each Cw⟩,⟨?_,?_,?_⟩,c.tick,d.tick,e.tick⟩
 ·show(FS (min (max 3 0) 1048576) T.ns T.ns.length T.fs).1=_
  rw[b,h.ns,h.fs,f,ht]
 ·show min (T.now+min (max 3 0) 1048576) 1099511627776=3
  rw[h.now];decide
 ·show(FS (min (max 3 0) 1048576) T.ns T.ns.length T.fs).2=_
  rw[b,h.ns,h.fs,f,ht]
theorem Vg(y:AG):onto [] [y]=[y]:=rfl
theorem pv(h:Dt T x0 x1 x2 3 [])(b:CT x0.n)(e:E6 T 2 0 0 0 0 [] k ok T' k'):ok=true/\k'=k+2/\∃m,Dt T' m x1 x2 3 [⟨0,1,Fy 0 0 Iz⟩]:=by
 obtain⟨d,f,wv,j,rfl,l⟩:=Qu (i:=0) (x:=x0) e (by rw[h.ns];rfl);have c:=Wx j b.em;rw[b.id.1,b.id.2]at c;refine⟨d,l,⟨x0.g,(EV x0.n f).each Cw⟩,⟨?_,h.now,?_⟩⟩
 ·show T.ns.set 0 _=_
  rw[h.ns];rfl
 ·show onto T.fs (flyTo (EV x0.n f) x0.n.s.ls.length)=_
  rw[h.fs,b.rest.act b.len,Vg,b.id.1,b.tos,c];rfl
theorem pq(h:Dt T x0 x1 x2 3 [⟨0,1,Fy 0 0 Iz⟩])(l:CQ x1.n)(o:E6 T 3 0 0 0 0 [] k ok T' k'):ok=true/\k'=k+1/\∃n,Dt T' x0 ⟨x1.g,n⟩ x2 3 []/\(n.id=1/\n.inc=0)/\Bh n/\n.s.ls.length=1/\n.p.tos=[2]/\C8 n []=some EE/\(Hm (C5 n.p.timeout) n.s.Z 3).length=1:=by
 obtain⟨m,f,wv,d,⟨_,y,en,n,j,i,rfl,q⟩|⟨c,_⟩|⟨c,_⟩|⟨c,_⟩⟩:=MK o (by decide) (by rw[h.fs];exact List.cons_ne_nil _ _)
 ·have e:DR T 0=0:=by unfold DR;rw[h.fs];rfl
  rw[e,h.fs]at d;cases d;rw[h.ns]at j;have b:some x1=some y:=j;cases b;rw[h.now]at i;obtain⟨r,u,v,z,A,B⟩:=l.recv i;refine⟨m,q,n,⟨?_,h.now,?_⟩,r,u,v,z,A,B⟩
  ·show T.ns.set 1 _=_
   rw[h.ns];rfl
  ·show T.fs.eraseIdx (DR T 0)=[]
   rw[e,h.fs];rfl
 ·omega
 ·omega
 ·omega
theorem pt(h:Dt T x0 ⟨g,n⟩ x2 3 [])(b:n.id=1/\n.inc=0)(o:Bh n)(q:n.s.ls.length=1)(r:n.p.tos=[2])(u:C8 n []=some EE)(e:E6 T 2 1 0 0 0 [] k ok T' k'):ok=true/\k'=k+2/\∃m,Dt T' x0 ⟨g,m⟩ x2 3 [⟨1,2,Fy 1 0 EE⟩]/\m.p=n.p/\m.s.Z=n.s.Z:=by
 obtain⟨d,f,wv,j,rfl,l⟩:=Qu (i:=1) (x:=⟨g,n⟩) e (by rw[h.ns];rfl);have c:=Wx j u;rw[b.1,b.2]at c;refine⟨d,l,(EV n f).each Cw,⟨?_,h.now,?_⟩,rfl,rfl⟩
 ·show T.ns.set 1 _=_
  rw[h.ns];rfl
 ·show onto T.fs (flyTo (EV n f) n.s.ls.length)=_
  rw[h.fs,o.act q,Vg,b.1,r,c];rfl
theorem pp{y:AG}(h:Dt T x0 x1 x2 3 [y])(e:E6 T 5 0 0 0 0 [] k ok T' k'):ok=true/\k'=k/\Dt T' x0 x1 x2 3 [y,y]:=by
 obtain⟨d,f,wv,c,⟨b,_⟩|⟨b,_⟩|⟨_,rfl,j⟩|⟨b,_⟩⟩:=MK e (by decide) (by rw[h.fs];exact List.cons_ne_nil _ _)
 ·omega
 ·omega
 ·have i:DR T 0=0:=by unfold DR;rw[h.fs];rfl
  rw[i,h.fs]at c;cases c;exact⟨d,j,h.ns,h.now,by show onto T.fs [y]=_;rw[h.fs];rfl⟩
 ·omega
theorem pu(h:Dt T x0 x1 x2 3 [⟨1,2,Fy 1 0 EE⟩,⟨1,2,Fy 1 0 EE⟩])(l:CR x2.n)(o:E6 T 3 0 1 0 0 [] k ok T' k'):ok=true/\k'=k+1/\∃n,Dt T' x0 x1 ⟨x2.g,n⟩ 3 [⟨1,2,Fy 1 0 EE⟩]/\GO n.s=true/\GQ n.s=⟨#[97]⟩:=by
 obtain⟨m,f,wv,d,⟨_,y,en,n,j,i,rfl,p⟩|⟨c,_⟩|⟨c,_⟩|⟨c,_⟩⟩:=MK o (by decide) (by rw[h.fs];exact List.cons_ne_nil _ _)
 ·have e:DR T 1=1:=by unfold DR;rw[h.fs];rfl
  rw[e,h.fs]at d;cases d;rw[h.ns]at j;have b:some x2=some y:=j;cases b;rw[h.now]at i;obtain⟨q,r⟩:=l.recv i;refine⟨m,p,n,⟨?_,h.now,?_⟩,q,r⟩
  ·show T.ns.set 2 _=_
   rw[h.ns];rfl
  ·show T.fs.eraseIdx (DR T 1)=_
   rw[e,h.fs];rfl
 ·omega
 ·omega
 ·omega
theorem lG{y:AG}(h:Dt T x0 x1 x2 3 [y])(d:E6 T 4 0 0 0 0 [] k ok T' k'):ok=true/\k'=k/\Dt T' x0 x1 x2 3 []:=by
 obtain⟨c,f,wv,j,⟨b,_⟩|⟨_,rfl,i⟩|⟨b,_⟩|⟨b,_⟩⟩:=MK d (by decide) (by rw[h.fs];exact List.cons_ne_nil _ _)
 ·omega
 ·have e:DR T 0=0:=by unfold DR;rw[h.fs];rfl
  exact⟨c,i,h.ns,h.now,by show T.fs.eraseIdx (DR T 0)=[];rw[e,h.fs];rfl⟩
 ·omega
 ·omega
theorem cS{tmps:Array Value}{W:World}{cs:List Value}(d:tmps.getD 0 undef=.pointer (some ⟨g,0,none⟩))(f:BkA 25 W g cs)(e:cs.length=10):(results Tryz.f21 tmps).run Tryz.prog W=.ok (.agg cs.toArray) W:=by
 have c:=f.load Tryz.underlying25 rfl OQ e;have b:tmps[0]?.getD undef=.pointer (some ⟨g,0,none⟩):=by simpa using d
 simp[results,Tryz.results21,asAddr,b,c]
theorem U5(w:World):Calls Tryz.prog 21 #[] w fun e w'=> ∃a x y,e=.returned (Ev a x y).val/\Cd w' (Ev a x y)/\Below w.heap.size w w':=by
 have r:=Ab (show BkA 25 ((((w.alloc (.cells #[.slice none 0 0,.string ⟨#[]⟩,.int .i64 0,.int .i64 0,.int .i64 0,.int .i64 0,.int .i64 0,.float .f64 0,.int .i64 0,.int .i64 0] 25)).alloc (.cells #[.int .i64 1] 3)).alloc (.cells #[.int .i64 2] 3)).alloc (.cells #[.int .i64 1,.slice (some ⟨w.heap.size+1,0,none⟩) 1 1,.int .i64 2,.slice (some ⟨w.heap.size+1+1,0,none⟩) 1 1,.int .i64 3,.slice none 0 0] 29)) w.heap.size [.slice none 0 0,.string ⟨#[]⟩,.int .i64 0,.int .i64 0,.int .i64 0,.int .i64 0,.int .i64 0,.float .f64 0,.int .i64 0,.int .i64 0] from(((AO 25 w [.slice none 0 0,.string ⟨#[]⟩,.int .i64 0,.int .i64 0,.int .i64 0,.int .i64 0,.int .i64 0,.float .f64 0,.int .i64 0,.int .i64 0]).below (Ax _ _)).below (Ax _ _)).below (Ax _ _));go_enter Tryz.func21,Tryz.ntmps21
 go_wp2_with (first
  |((with_reducible refine JP 25 25 OQ 0 7 w.heap.size 0 _ [.slice (some ⟨w.heap.size+1+1+1,0,none⟩) 3 3,.string ⟨#[97]⟩,.int .i64 1,.int .i64 0,.int .i64 4,.int .i64 4,.int .i64 0,.float .f64 4607182418800017408,.int .i64 5,.int .i64 1] ?_ ?_ (Aa r) rfl ?_ ?_ ?_);(focus rfl);(focus rfl);(focus exact(show 0+10<=10 by decide));(focus exact(by simp[Value.oneCell']));intro v h b;have o:=Ab h;have m:=Ab b;clear h b)
  |fail)
 have b:=Aa m;refine bodyPost_ret (cS rfl (Aa o) rfl) rfl ⟨w.heap.size+1+1+1,w.heap.size+1,w.heap.size+1+1,rfl,⟨?_,show 3<=9223372036854775807 by decide,show 1<=9223372036854775807 by decide,show 4607182418800017408<18446744073709551616 by decide,fun i d=>?_⟩,?_⟩
 ·have A:=((AO 3 (w.alloc (.cells #[.slice none 0 0,.string ⟨#[]⟩,.int .i64 0,.int .i64 0,.int .i64 0,.int .i64 0,.int .i64 0,.float .f64 0,.int .i64 0,.int .i64 0] 25)) [.int .i64 1]).below (Ax _ (.cells #[.int .i64 2] 3))).below (Ax _ (.cells #[.int .i64 1,.slice (some ⟨w.heap.size+1,0,none⟩) 1 1,.int .i64 2,.slice (some ⟨w.heap.size+1+1,0,none⟩) 1 1,.int .i64 3,.slice none 0 0] 29))
  have B:=(AO 3 ((w.alloc (.cells #[.slice none 0 0,.string ⟨#[]⟩,.int .i64 0,.int .i64 0,.int .i64 0,.int .i64 0,.int .i64 0,.float .f64 0,.int .i64 0,.int .i64 0] 25)).alloc (.cells #[.int .i64 1] 3)) [.int .i64 2]).below (Ax _ (.cells #[.int .i64 1,.slice (some ⟨w.heap.size+1,0,none⟩) 1 1,.int .i64 2,.slice (some ⟨w.heap.size+1+1,0,none⟩) 1 1,.int .i64 3,.slice none 0 0] 29));have C:=AO 29 (((w.alloc (.cells #[.slice none 0 0,.string ⟨#[]⟩,.int .i64 0,.int .i64 0,.int .i64 0,.int .i64 0,.int .i64 0,.float .f64 0,.int .i64 0,.int .i64 0] 25)).alloc (.cells #[.int .i64 1] 3)).alloc (.cells #[.int .i64 2] 3)) [.int .i64 1,.slice (some ⟨w.heap.size+1,0,none⟩) 1 1,.int .i64 2,.slice (some ⟨w.heap.size+1+1,0,none⟩) 1 1,.int .i64 3,.slice none 0 0];simp only[Bc]at A B C;have s:¬(w.heap.size+1=w.heap.size):=by omega
  have u:¬(w.heap.size+1+1=w.heap.size):=by omega
  have c:¬(w.heap.size+1+1+1=w.heap.size):=by omega
  refine⟨rfl,fun i d=>?_,.inr ⟨_,0,rfl,fun i d=>?_⟩⟩
  ·have f:i<3:=d
   obtain rfl|rfl|rfl:i=0\/i=1\/i=2:=by omega
   ·exact⟨rfl,.inr ⟨_,0,rfl,fun j l=>by
     have q:j<1:=l;obtain rfl:j=0:=by omega
     exact b.cell (A.at 0 rfl) s⟩⟩
   ·exact⟨rfl,.inr ⟨_,0,rfl,fun j l=>by
     have q:j<1:=l;obtain rfl:j=0:=by omega
     exact b.cell (B.at 0 rfl) u⟩⟩
   ·exact⟨rfl,.inl rfl⟩
  ·have f:i<3:=d
   obtain rfl|rfl|rfl:i=0\/i=1\/i=2:=by omega
   ·exact⟨b.cell (C.at 0 rfl) c,b.cell (C.at 1 rfl) c⟩
   ·exact⟨b.cell (C.at 2 rfl) c,b.cell (C.at 3 rfl) c⟩
   ·exact⟨b.cell (C.at 4 rfl) c,b.cell (C.at 5 rfl) c⟩
 ·have f:i<3:=d
  obtain rfl|rfl|rfl:i=0\/i=1\/i=2:=by omega
  ·exact⟨show 1<=9223372036854775807 by decide,fun e=>by have p:some (⟨w.heap.size+1,0,none⟩:Addr)=none:=e;cases p⟩
  ·exact⟨show 1<=9223372036854775807 by decide,fun e=>by have p:some (⟨w.heap.size+1+1,0,none⟩:Addr)=none:=e;cases p⟩
  ·exact⟨show 0<=9223372036854775807 by decide,fun _=>⟨rfl,rfl⟩⟩
 ·exact(Ad (Ad (Ad (Ax _ _) (Ax _ _)) (Ax _ _)) (Ax _ _)).trans (b.below (Ad (Ad (Ad (Ax _ _) (Ax _ _)) (Ax _ _)) (Ax _ _)).size fun j l e=>by omega)
theorem U6(a x y:Nat):∀i,i<(Ev a x y).n->((Ev a x y).ds.getD i .dflt).n<=((Ev a x y).ds.getD i .dflt).c:=fun i b=>by
 have d:i<3:=b;obtain rfl|rfl|rfl:i=0\/i=1\/i=2:=by omega
 ·exact Nat.le_refl 1
 ·exact Nat.le_refl 1
 ·exact Nat.le_refl 0
def zF:BU:=⟨none,0,0,[],⟨#[]⟩,0,0,0,0,0,0,0,0⟩
theorem aK(w:World):Cd w zF:=⟨⟨rfl,fun i b=>absurd b (Nat.not_lt_zero i),.inl rfl⟩,Nat.zero_le _,Nat.zero_le _,(by decide:0<18446744073709551616),fun i b=>absurd b (Nat.not_lt_zero i)⟩
theorem Zr{en:Int}(h:Cm zF en):en=1:=by
 rcases h with⟨h,_⟩|⟨_,h⟩
 ·exact absurd h.1.1.1 (show¬1<=0 by decide)
 ·exact h
theorem Zs(w:World):Calls Tryz.prog 9 #[.agg #[.slice none 0 0,.string ⟨#[]⟩,.int .i64 0,.int .i64 0,.int .i64 0,.int .i64 0,.int .i64 0,.float .f64 0,.int .i64 0,.int .i64 0]] w fun e w'=>e=.returned (.tuple #[.pointer none,.int .i64 1])/\Below w.heap.size w w':=
 (TC zF w (aK w) fun i c=>absurd c (Nat.not_lt_zero i)).mono fun e w' ⟨b,en,d,h⟩=>by
  obtain rfl:=Zr d;rcases h with⟨_,h⟩|⟨h,_⟩
  ·exact⟨h,b⟩
  ·exact absurd h (by decide)
theorem aA(h:Cd w (Ev a x y)):Calls Tryz.prog 9 #[(Ev a x y).val] w fun e w'=> ∃(q:Nat) (T:AK) (P:Nat->A9) (x0 x1 x2:BN),e=.returned (.tuple #[.pointer (some ⟨q,0,none⟩),.int .i64 0])/\A3 w w' q P T 0/\Dt T x0 x1 x2 0 []/\CT x0.n/\CQ x1.n/\CR x2.n:=
 (TC (Ev a x y) w h (U6 a x y)).mono fun e w' ⟨_,en,o,l⟩=>by
  rcases l with⟨b,_⟩|⟨_,q,T,j,m,c⟩
  ·exact absurd (U7 o) b
  ·obtain⟨x0,x1,x2,b,d,f,i⟩:=pr m c
   exact⟨q,T,_,x0,x1,x2,j,c,b,d,f,i⟩
theorem Z9(h:Cd w (Ev a x y)):Calls Tryz.prog 10 #[(Ev a x y).val] w fun e w'=>e=.returned (.int .i64 0)/\Below w.heap.size w w':=
 (Tz (Ev a x y) w h (U6 a x y)).mono fun e w' ⟨en,c,d,b⟩=>⟨by rw[c,U7 d],b⟩
theorem W3{fs:List AG}(h:Dt T x0 x1 ⟨g,n⟩ 3 fs)(f:GO n.s=true)(i:GQ n.s=⟨#[97]⟩):∃a b c d e:Int,Hq T 2=[.int .i64 a,.int .i64 b,.int .i64 c,.int .i64 d,.int .i64 e,.bool true,.string ⟨#[97]⟩]:=by
 unfold Hq;rw[if_pos (by decide),show(2:Int).toNat=2 from rfl,h.ns];show∃a b c d e:Int,Hp n T.now=_;unfold Hp;rw[f,i];exact⟨_,_,_,_,_,rfl⟩
theorem qy{fs:List AG}(h:Dt T x0 ⟨g,n⟩ x2 3 fs)(f:(Hm (C5 n.p.timeout) n.s.Z 3).length=1):∃(a b c d:Int) (e:Bool) (s:ByteArray),Hq T 1=[.int .i64 a,.int .i64 b,.int .i64 c,.int .i64 d,.int .i64 1,.bool e,.string s]:=by
 unfold Hq;rw[if_pos (by decide),show(1:Int).toNat=1 from rfl,h.ns,h.now];show∃(a b c d:Int) (e:Bool) (s:ByteArray),Hp n 3=_;unfold Hp;rw[f];exact⟨_,_,_,_,_,_,rfl⟩
theorem WM{w0:World}{q:Nat}{P:Nat->A9}{l:List AG}(h:A3 w0 w q P T k)(o:T.fs=l):Calls Tryz.prog 15 #[.pointer (some ⟨q,0,none⟩)] w fun e w'=> ∃a c,e=.returned (.slice a l.length c)/\Ap w' w.heap.size (.slice a l.length c) l/\Below w.heap.size w w':=
 (kt q w0.heap.size T w h.net fun f m=>(h.inv.fly f m).2.2).mono fun e w' ⟨v,j,b,i⟩=>by
  obtain⟨a,c,d⟩:=b.len;rw[o]at d b;exact⟨a,c,by rw[j,d],d▸b,i⟩
theorem Zx(a b c d e:Int)(f:Bool)(s:ByteArray)(w:World):(Instr.field 44 (.agg #[.int .i64 a,.int .i64 b,.int .i64 c,.int .i64 d,.int .i64 e,.bool f,.string s]) 4).run Tryz.prog w=.ok (.int .i64 e) w:=by kernel_rfl
theorem Zy(a b c d e:Int)(f:Bool)(s:ByteArray)(w:World):(Instr.field 44 (.agg #[.int .i64 a,.int .i64 b,.int .i64 c,.int .i64 d,.int .i64 e,.bool f,.string s]) 5).run Tryz.prog w=.ok (.bool f) w:=by kernel_rfl
theorem Zz(a b c d e:Int)(f:Bool)(s:ByteArray)(w:World):(Instr.field 44 (.agg #[.int .i64 a,.int .i64 b,.int .i64 c,.int .i64 d,.int .i64 e,.bool f,.string s]) 6).run Tryz.prog w=.ok (.string s) w:=by kernel_rfl
theorem eR(w:World)(ht:Br w):Calls Tryz.prog 8 #[] w fun e w'=>e=.returned (.bool true)/\Below w.heap.size w w':=by
 have HT:=Ab ht;clear ht;have y4:=Zx;have y5:=Zy;have y6:=Zz;have FA:=Ab True.intro;have FB:=Ab True.intro;have FC:=Ab True.intro;have FD:=Ab True.intro;have FE:=Ab True.intro;have FF:=Ab True.intro;have FG:=Ab True.intro;have FH:=Ab True.intro;have FI:=Ab True.intro;have FJ:=Ab True.intro;have FK:=Ab True.intro;have FL:=Ab True.intro;have FN:=Ab True.intro;have FO:=Ab True.intro;have FP:=Ab True.intro;have FQ:=Ab True.intro;have FR:=Ab True.intro;go_enter Tryz.func8,Tryz.ntmps8
 go_wp2_with (first
  |(clear FA;go_at_call 21;refine(U5 _).mono ?_;rintro e w1 ⟨a1,x1,y1,rfl,H,o⟩;have z:=Ab (aA H);have S:=Ab o;have d:=Ab ((Aa HT).below o);clear H o)
  |(clear FB;go_at_call 9;refine(Aa z).mono ?_;rintro e w2 ⟨q,T0,P,n0,n1,n2,rfl,c,b,s0,s1,s2⟩;have J1:=Ab c;have r:=Ab (And.intro b (And.intro s0 (And.intro s1 s2)));clear c b s0 s1 s2 z)
  |(clear FC;go_at_call 9;refine(Zs _).mono ?_;rintro e w3 ⟨rfl,f⟩;have J2:=Ab ((Aa J1).below f);clear f J1)
  |(clear FD;go_at_call 13;refine(Hb (Aa J2) (Aa d) (by decide) 1 0 3 0 0 0 (Dv _) (Nat.zero_le _)).mono ?_;rintro e w4 ⟨ok,T1,k1,rfl,b,c⟩;obtain⟨rfl,rfl,m0,m1,m2,d2,s0,s1,s2⟩:=lH (Aa r).1 (Aa r).2.1 (Aa r).2.2.1 (Aa r).2.2.2 b;have J3:=Ab c;have u:=Ab (And.intro d2 (And.intro s0 (And.intro s1 s2)));clear c b d2 s0 s1 s2 J2 r)
  |(clear FE;go_at_call 13;refine(Hb (Aa J3) (Aa d) (by decide) 2 0 0 0 0 0 (Dv _) (Nat.zero_le _)).mono ?_;rintro e w5 ⟨ok,T2,k2,rfl,b,c⟩;obtain⟨rfl,rfl,o0,d3⟩:=pv (Aa u).1 (Aa u).2.1 b;have W:=Ab c;have v:=Ab (And.intro d3 (And.intro (Aa u).2.2.1 (Aa u).2.2.2));clear c b d3 J3 u)
  |(clear FF;go_at_call 15;refine(WM (Aa W) (Aa v).1.fs).mono ?_;rintro e w6 ⟨a2,c2,rfl, -,f⟩;have J5:=Ab ((Aa W).below f);clear f W)
  |(clear FG;go_at_call 13;refine(Hb (Aa J5) (Aa d) (by decide) 3 0 0 0 0 0 (Dv _) (Nat.zero_le _)).mono ?_;rintro e w7 ⟨ok,T3,k3,rfl,b,c⟩;obtain⟨rfl,rfl,u1,d4,K,L,q3,q4,q5,q6⟩:=pq (Aa v).1 (Aa v).2.1 b;have J6:=Ab c;have D4:=Ab d4;have m:=Ab (And.intro K (And.intro L (And.intro q3 (And.intro q4 (And.intro q5 q6)))));have S4:=Ab (Aa v).2.2;clear c b d4 K L q3 q4 q5 q6 J5 v)
  |(clear FH;go_at_call 13;refine(Hb (Aa J6) (Aa d) (by decide) 2 1 0 0 0 0 (Dv _) (Nat.zero_le _)).mono ?_;rintro e w8 ⟨ok,T4,k4,rfl,b,c⟩;obtain⟨rfl,rfl,v1,d5,p1,p2⟩:=pt (Aa D4) (Aa m).1 (Aa m).2.1 (Aa m).2.2.1 (Aa m).2.2.2.1 (Aa m).2.2.2.2.1 b;have J7:=Ab c;have D5:=Ab d5;have Q5:=Ab (show(Hm (C5 v1.p.timeout) v1.s.Z 3).length=1 from by rw[p1,p2];exact(Aa m).2.2.2.2.2);clear c b d5 p1 p2 J6 D4 m)
  |(clear FI;go_at_call 13;refine(Hb (Aa J7) (Aa d) (by decide) 5 0 0 0 0 0 (Dv _) (Nat.zero_le _)).mono ?_;rintro e w9 ⟨ok,T5,k5,rfl,b,c⟩;obtain⟨rfl,rfl,d6⟩:=pp (Aa D5) b;have X:=Ab c;have R:=Ab d6;clear c b d6 J7 D5)
  |(clear FJ;go_at_call 15;refine(WM (Aa X) (Aa R).fs).mono ?_;rintro e aa ⟨a3,c3,rfl, -,f⟩;have J9:=Ab ((Aa X).below f);clear f X)
  |(clear FK;go_at_call 13;refine(Hb (Aa J9) (Aa d) (by decide) 3 0 1 0 0 0 (Dv _) (Nat.zero_le _)).mono ?_;rintro e ab ⟨ok,T6,k6,rfl,b,c⟩;obtain⟨rfl,rfl,z1,d7,K,L⟩:=pu (Aa R) (Aa S4) b;have B:=Ab c;have D7:=Ab d7;have O:=Ab (And.intro K L);clear c b d7 K L J9 R S4)
  |(clear FL;go_at_call 13;refine(Hb (Aa B) (Aa d) (by decide) 4 0 0 0 0 0 (Dv _) (Nat.zero_le _)).mono ?_;rintro e ac ⟨ok,Q,k7,rfl,b,c⟩;obtain⟨rfl,rfl,Y⟩:=lG (Aa D7) b;have i:=Ab c;have N:=Ab Y;have J:=Y.now;clear c b Y B D7)
  |(go_at_call 20;refine(kx q w1.heap.size Q _ (Aa i).net).mono ?_;rintro e ad ⟨rfl,hw⟩;obtain rfl:=hw.symm;clear hw;rw[J])
  |(clear FN;go_at_call 14;obtain⟨r0,r1,r2,r3,r4,h⟩:=W3 (Aa N) (Aa O).1 (Aa O).2;refine(Ox q w1.heap.size Q 2 _ (Aa i).net ((Aa i).tabs (Aa d) _ (Below.refl _ _)).tab).mono ?_;rw[h];rintro e ae ⟨rfl,f⟩;have j:=Ab ((Aa i).below f);clear f i h)
  |(clear FO;go_at_call 14;obtain⟨t0,t1,t2,t3,t4,h⟩:=W3 (Aa N) (Aa O).1 (Aa O).2;refine(Ox q w1.heap.size Q 2 _ (Aa j).net ((Aa j).tabs (Aa d) _ (Below.refl _ _)).tab).mono ?_;rw[h];rintro e af ⟨rfl,f⟩;have l:=Ab ((Aa j).below f);clear f j h)
  |(clear FP;go_at_call 14;obtain⟨l0,l1,l2,l3,l4,l5,h⟩:=qy (Aa N) (Aa Q5);refine(Ox q w1.heap.size Q 1 _ (Aa l).net ((Aa l).tabs (Aa d) _ (Below.refl _ _)).tab).mono ?_;rw[h];rintro e ag ⟨rfl,f⟩;have C:=Ab ((Aa l).below f);clear f l h)
  |(clear FQ;go_at_call 13;refine(Hb (Aa C) (Aa d) (by decide) 4 0 0 0 0 0 (Dv _) (Nat.zero_le _)).mono ?_;rintro e ah ⟨ok,T8,k8,rfl,b,c⟩;obtain⟨rfl,rfl,rfl⟩:=QQ b (.inr (.inr ⟨by decide,(Aa N).fs⟩));have D:=Ab c;clear c b C)
  |(clear FR;go_at_call 13;refine(Hb (Aa D) (Aa d) (by decide) 8 0 0 0 0 0 (Dv _) (Nat.zero_le _)).mono ?_;rintro e ai ⟨ok,T9,k9,rfl,b,c⟩;obtain⟨rfl,rfl,rfl⟩:=QQ b (.inl (.inr (by decide)));have E:=Ab c;clear c b D)
  |(go_at_call 21;refine(U5 _).mono ?_;rintro e aj ⟨a9,x9,y9,rfl,I,f⟩;have A:=Ab (Z9 I);have G:=Ab ((Aa E).below f);clear I f E)
  |(go_at_call 10;refine(Aa A).mono ?_;rintro e ak ⟨rfl,f⟩;have V:=Ab ((Aa G).below f);clear f G A)
  |fail)
 go_ret;exact⟨rfl,Ad (Aa S) (Aa V).low⟩
theorem eU(f:Gt)(id:Int)(w:World)(ht:Br w):Calls Tryz.prog 7 #[f.val,.int .i64 id] w fun e w'=>e=.returned (.bool true)/\Below w.heap.size w w':=by
 have p:=Ab ht;obtain⟨kd,nd,n,a,b,q,dn,dc,xs⟩:=f;have o:=Ab (Ax w (.cells #[.int .i64 kd,.int .i64 nd,.int .i64 n,.int .i64 a,.int .i64 b,.slice q dn dc] 42));simp only[Gt.val];clear ht;go_enter Tryz.func7,Tryz.ntmps7
 go_wp2_with (first
  |(go_at_call 13;refine(pQ _ _ _ _ _ _ _).mono ?_;rintro e w1 ⟨rfl,h⟩;have l:=Ab (Ad (Aa o) h);clear h)
  |(go_at_call 20;refine(ky _).mono ?_;rintro e w3 ⟨rfl,c⟩;obtain rfl:=c.symm;clear c)
  |(go_at_call 15;refine(ku _).mono ?_;rintro e w3 ⟨rfl,c⟩;obtain rfl:=c.symm;clear c)
  |(go_at_call 14;refine(kz _ _).mono ?_;rintro e w3 ⟨rfl,i⟩;have d:=Ab (Ad (Aa l) i);clear i)
  |(go_at_call 8;refine(eR _ ((Aa p).below (Aa d))).mono ?_;rintro e r ⟨rfl,j⟩;have m:=Ab (Ad (Aa d) j);clear j)
  |fail)
 go_ret;exact⟨rfl,Aa m⟩
end Go.Proofs.YtmmikiikddokgaaGreatDoor
