/-
  Laws that the proof stands on.
-/
import Derived.Test.YtfpmnekaockodaaGreatDoorU44
namespace Go.Proofs.YtfpmnekaockodaaGreatDoor
open Go.RowKit Go.Sort
set_option linter.unusedVariables false
set_option linter.unusedSimpArgs false
set_option maxRecDepth 4000
set_option maxHeartbeats 8000000
variable {ok:Bool}{f:Bl}{a nd b:Int}{ns:List BS}{L:List Nat}{n:Ao}{T T':AK}{q k p i k':Nat}{nv:Value}{w0 w w1 w':World}
theorem Y7{P:Nat->A9}(h:A3 w0 w q P T k)(j:T.fs=[])(kd nd n a b:Int)(v:Value):
  Calls Tryz.prog 29 #[.pointer (some ⟨q,0,none⟩),.agg #[.int .i64 kd,.int .i64 nd,.int .i64 n,.int .i64 a,.int .i64 b,v]] w fun e w'=>e=.returned (.bool false)/\Below w.heap.size w w':=by
 have c:=Ax w (.cells (evC kd nd n a b v).toArray 42);have d:=Ab c;obtain⟨l,m,g⟩:=h.net.fly.len;have c2:=(h.below c).net.blk.at 2 rfl;rw[g,j]at c2;clear h c g;simp only[evC]at d c2;go_enter Tryz.func29,Tryz.ntmps29;go_wp2;go_ret;exact⟨rfl,Aa d⟩
def DU(T:AK)(n:Int):Nat:=(modZ n T.fs.length).toNat
def Nr(T:AK)(kd n a b:Int)(k:Nat)(T':AK)(k':Nat):Prop:=∃f wv,T.fs[DU T n]? =some f/\
 ((kd=3/\∃x en c,T.ns[f.dst.toNat]? =some x/\Hl x.n f.s T.now en c/\T'=(T.fly wv (T.fs.eraseIdx (DU T n))).setN f.dst.toNat x.g c/\k'=k+1)\/
  (kd=4/\T'=T.fly wv (T.fs.eraseIdx (DU T n))/\k'=k)\/(kd=5/\T'=T.fly wv (onto T.fs [f])/\k'=k)\/(kd=6/\T'=T.fly wv (T.fs.set (DU T n) (f.bear (Ic f.s a b)))/\k'=k))
structure F3(w0 w:World)(q p k:Nat)(P:Nat->A9)(T:AK)(f:AG):Prop where
 nj:A3 w0 w q P T k
 box:BkA 99 w p [.int .i64 f.fr,.int .i64 f.dst,.string f.s]
 out:¬F0 q T p
 lo:w0.heap.size<=p
theorem Ap.lit(w:World)(f:AG):Ap (w.alloc (.cells #[.int .i64 f.fr,.int .i64 f.dst,.string f.s] 99)) w.heap.size (.slice (some ⟨w.heap.size,0,none⟩) 1 1) [f]:=World.ownsRow_lit _ #[.int .i64 f.fr,.int .i64 f.dst,.string f.s] 1 (Nat.le_refl _) (by decide) rfl
theorem A3.flij{P:Nat->A9}(h:A3 w0 w q P T k)(c:Below w.heap.size w w1)(f:AG):F3 w0 (w1.alloc (.cells #[.int .i64 f.fr,.int .i64 f.dst,.string f.s] 99)) q w1.heap.size k P T f:=
 ⟨(h.below c).below (Ax _ _),AN 99 w1 [.int .i64 f.fr,.int .i64 f.dst,.string f.s],fun e=>by
  have:=c.size;rcases e with e|e
  ·have:=h.net.blk.lt;omega
  ·have:=(EP h.net.fly e).2;omega,Nat.le_trans h.low.size c.size⟩
theorem F3.below{P:Nat->A9}{f:AG}(h:F3 w0 w q p k P T f)(c:Below w.heap.size w w'):F3 w0 w' q p k P T f:=⟨h.nj.below c,h.box.below c,h.out,h.lo⟩
theorem aA{g c:Nat}{P:Nat->A9}{f:AG}{s:ByteArray}(h:A3 w0 w q P T k)(o:T.wv=.slice (some ⟨g,0,none⟩) T.fs.length c)(r:T.fs[i]? =some f)(D:s.size=f.s.size):A3 w0 (w.setCell ⟨g,i*3+2,none⟩ (.string s)) q P (T.fly T.wv (T.fs.set i (f.bear s))) k:=by
 have y:=(List.getElem?_eq_some_iff.1 r).1;have v:T.fs.getD i .dflt=f:=by rw[List.getD_eq_getElem?_getD,r];rfl
 have l:Tu (fun j=>j=g) w (w.setCell ⟨g,i*3+2,none⟩ (.string s)):=Be _ _ _ _;have m:Tu (F0 q T) w (w.setCell ⟨g,i*3+2,none⟩ (.string s)):=l.wide fun j e=>.inr (by rw[o,e];rfl);have B:kdB w g=99+2:=Bu h.net.fly (by rw[o];rfl);have A:=h.net.fly;rw[o]at A;have d:=Ap.setS A y s;rw[v,<-o]at d
 have u:∀x∈T.fs.set i (f.bear s),Gw T.ns.length x:=fun x z=>by
  rcases List.mem_or_eq_of_mem_set z with e|rfl
  ·exact h.inv.fly x e
  ·obtain⟨C,E,H⟩:=h.inv.fly f (List.mem_of_getElem? r)
   exact⟨C,by show 0<s.size;omega,by show s.size<=1048576;omega⟩
 exact⟨h.net.way m (h.net.blk.tu l fun e=>by have:=h.net.blk.kd;subst e;omega) d (by rw[List.length_set];exact h.net.few.2) h.net.now0,⟨fun i x z=>h.inv.node i x z,u⟩,h.net.lowB h.low (m.wide h.net.wayT)⟩
theorem pf{P:Nat->A9}(h:A3 w0 w q P T k)(ht:Bt w0)(hk:k<=1000000)(hf:0<T.fs.length)(kd nd n a b:Int)(ag:kd=3\/kd=4\/kd=5\/kd=6)(v:Value):
  Calls Tryz.prog 29 #[.pointer (some ⟨q,0,none⟩),.agg #[.int .i64 kd,.int .i64 nd,.int .i64 n,.int .i64 a,.int .i64 b,v]] w fun e w'=>e=.returned (.bool true)/\∃T' k',Nr T kd n a b k T' k'/\A3 w0 w' q P T' k':=by
 have ah:=h.net.few.2;have hm:=WX (n:=n) (m:=(T.fs.length:Int)) (by omega);obtain⟨i,hi⟩:∃i:Nat,modZ n T.fs.length=(i:Int):=⟨(modZ n T.fs.length).toNat,by omega⟩;have A:i<T.fs.length:=by omega
 have Z:DU T n=i:=by unfold DU;omega
 have B:=Ax w (.cells (evC kd nd n a b v).toArray 42);have V:=Ab (AN 42 w (evC kd nd n a b v));have hN:=h.below B;have HM:=Ab (fun wx=>TT n (T.fs.length:Int) wx (by omega));rw[hi]at HM;have e0:=(Aa V).at 0 rfl;have e2:=(Aa V).at 2 rfl;have e3:=(Aa V).at 3 rfl;have e4:=(Aa V).at 4 rfl;obtain⟨g,c,hv,hc⟩:=hN.net.fly.at hf;have c2:=hN.net.blk.at 2 rfl;rw[hv]at c2;obtain⟨f0,f1,f2⟩:=hc i A;obtain⟨f,E⟩:∃f,T.fs[i]? =some f:=⟨_,List.getElem?_eq_getElem A⟩;obtain⟨⟨X,Y⟩,H,I⟩:=h.inv.fly f (List.mem_of_getElem? E);obtain⟨fr,dst,s⟩:=f;obtain⟨m,rfl⟩:∃m:Nat,dst=(m:Int):=⟨dst.toNat,by have:(0:Int)<=dst:=X;omega⟩;have aa:T.fs.getD i .dflt=⟨fr,m,s⟩:=by rw[List.getD_eq_getElem?_getD,E];rfl
 rw[aa]at f0 f1 f2;have aj:(m:Int)<(T.ns.length:Int):=Y;have I:s.size<=1048576:=I;have H:0<s.size:=H;have ai:(i:Int)<(T.fs.length:Int):=by omega
 have ak:((T.fs.length:Int)==0)=false:=by rw[beq_eq_false_iff_ne];omega
 obtain⟨x,hx⟩:∃x,T.ns[m]? =some x:=⟨_,List.getElem?_eq_getElem (by omega)⟩
 have HJ:=Ab (fun nq=>(show F3 w0 (((w.alloc (.cells (evC kd nd n a b v).toArray 42)).drewN nq).alloc (.cells #[.int .i64 fr,.int .i64 (m:Int),.string s] 99)) q (w.heap.size+1) k P T ⟨fr,m,s⟩ from by
  have:=h.flij (I4 B nq) ⟨fr,m,s⟩;rw[World.heap_drewN,Bc]at this;exact this))
 have O:=Ab (fun nq=>(show(((w.alloc (.cells (evC kd nd n a b v).toArray 42)).drewN nq).alloc (.cells #[.int .i64 fr,.int .i64 (m:Int),.string s] 99)).heap.size=w.heap.size+1+1 from by rw[Bc,World.heap_drewN,Bc]));have K:=Ab (fun nq=>((AN 42 w (evC kd nd n a b v)).belowB (I4 (Below.refl _ _) nq) (BkA.lt (AN 42 w (evC kd nd n a b v)))).below (Ax _ (.cells #[.int .i64 fr,.int .i64 (m:Int),.string s] 99)));have HV:=Ab hv;have ad:=Ab (fun wx=>ep s a b wx H I);have o:=Ab E
 have HG:=Ab (show g≠q/\g<w.heap.size from by
  have k1:=Bu h.net.fly (j:=g) (by rw[show T.wv=_ from hv];rfl);have k2:=h.net.blk.kd;have k3:=(EP h.net.fly (j:=g) (by rw[show T.wv=_ from hv];rfl)).2;exact⟨fun e=>by subst e;omega,k3⟩)
 have r:=Ab Z;clear h B hc hN hv hm hi aa X Y H E Z;simp only[evC]at V e0 e2 e3 e4 c2 f0 f1 f2 HJ O K;rcases ag with rfl|rfl|rfl|rfl
 all_goals go_enter Tryz.func29,Tryz.ntmps29
 all_goals go_wp2_with fail
 all_goals go_quiet ((go_at_call 52;exact Calls.quiet_of_same (Aa HM _)))
 all_goals go_wp2_with fail
 all_goals (have z:=Aa HJ nq;have hz:=Aa O nq;have D:=Aa K nq;clear HJ O K)
 ·refine(UX z.nj A).mono ?_
  rintro e w3 ⟨rfl,wv,u,t3⟩;have d:=z.box.tu t3 z.out;have b1:w3.cell? ⟨w.heap.size+1,1,none⟩=some (.int .i64 (m:Int)):=d.at 1 rfl;have b2:w3.cell? ⟨w.heap.size+1,2,none⟩=some (.string s):=d.at 2 rfl;obtain⟨g2,k2,R,W⟩:=u.net.cell (show(T.fly wv (T.fs.eraseIdx i)).ns[m]? =some x from hx);have n0:=u.net.blk.at 0 rfl;rw[R]at n0;have n1:w3.cell? ⟨q,1,none⟩=some (.int .i64 T.now):=u.net.blk.at 1 rfl;have ab:w3.cell? ⟨q,0,none⟩=some (.slice (some ⟨g2,0,none⟩) T.ns.length k2):=n0
  have HR:=Ab (fun wx (y:Below w3.heap.size w3 wx)=>(pg (u.below y) ht (show(T.fly wv (T.fs.eraseIdx i)).ns[m]? =some x from hx) hk s I T.now).mono (R':=fun e w'=> ∃(en:Nat) (S:Ao),e=.returned (.int .i64 (en:Int))/\Hid (Hl x.n s T.now en S/\A3 w0 w' q P ((T.fly wv (T.fs.eraseIdx i)).setN m x.g S) (k+1))/\w'.cell? ⟨q,0,none⟩=some (.slice (some ⟨g2,0,none⟩) T.ns.length k2)/\w'.cell? ⟨w.heap.size+1,1,none⟩=some (.int .i64 (m:Int))/\w'.cell? ⟨g2,m,none⟩=some (.pointer (some ⟨x.g,0,none⟩))/\w'.cell? ⟨w.heap.size+1,2,none⟩=some (.string s)/\w'.cell? ⟨q,1,none⟩=some (.int .i64 T.now)) fun e w' ⟨en,S,he,hr,af,C⟩=>by
   have N:=(u.below y).net.each m x hx;have kq:=(u.below y).net.blk.kd;have kg:=Bu (u.below y).net.own (j:=g2) (by rw[R];rfl);have Q:=d.below y;have kp:=Q.kd;have q1:¬Bg x.g x.n q:=fun e=>(N.nn q e).1 kq;have q2:¬Bg x.g x.n g2:=fun e=>(N.nn g2 e).2 kg;have q3:¬Bg x.g x.n (w.heap.size+1):=fun e=>(N.nk _ e).1 kp;exact⟨en,S,he,⟨hr,af⟩,C.cell ((y.cell (World.block_lt_of_cell? w3 _ ab)).trans ab) q1,C.cell (Q.at 1 rfl) q3,C.cell ((y.cell (World.block_lt_of_cell? w3 _ W)).trans W) q2,C.cell (Q.at 2 rfl) q3,C.cell ((y.cell (World.block_lt_of_cell? w3 _ n1)).trans n1) q1⟩)
  clear z u t3 d n0 R c2 f0 f1 f2 e0 e2 e3 e4 hz D;go_wp2_with fail
  go_region_held3 (fun w'=>w'.cell? ⟨q,0,none⟩=some (.slice (some ⟨g2,0,none⟩) T.ns.length k2)/\w'.cell? ⟨w.heap.size+1,1,none⟩=some (.int .i64 (m:Int))/\w'.cell? ⟨g2,m,none⟩=some (.pointer (some ⟨x.g,0,none⟩))/\w'.cell? ⟨w.heap.size+1,2,none⟩=some (.string s)/\w'.cell? ⟨q,1,none⟩=some (.int .i64 T.now)) (go_keep) (first
   |(go_at_call 54;refine(Aa HR _ (by first|exact I4 (Below.refl _ _) _|exact(Below.refl _ _).drew)).mono ?_;rintro e w4 ⟨en,S,rfl,l,z0,z1,z2,z3,z4⟩)
   |fail)
  all_goals go_wp2
  all_goals go_ret
  all_goals exact⟨rfl,_,_,⟨⟨fr,m,s⟩,wv,by rw[Aa r];exact Aa o,.inl ⟨rfl,x,en,S,hx,(Aa l).1,by rw[Aa r];rfl,rfl⟩⟩,(Aa l).2⟩
 ·refine(UX z.nj A).mono ?_
  rintro e w3 ⟨rfl,wv,u,t3⟩;have l:=Ab u;clear z u t3 c2 f0 f1 f2 e0 e2 e3 e4;go_wp2;go_ret;exact⟨rfl,_,_,⟨⟨fr,m,s⟩,wv,by rw[Aa r];exact Aa o,.inr (.inl ⟨rfl,by rw[Aa r],rfl⟩)⟩,Aa l⟩
 ·have J:=Ap.lit (((w.alloc (.cells #[.int .i64 5,.int .i64 nd,.int .i64 n,.int .i64 a,.int .i64 b,v] 42)).drewN nq).alloc (.cells #[.int .i64 fr,.int .i64 (m:Int),.string s] 99)) ⟨fr,m,s⟩
  rw[hz]at J;refine(Pn (z.nj.below (Ax _ _)) J (show 1<=4096 by decide) (fun f hm=>by rw[List.mem_singleton.1 hm];exact z.nj.inv.fly _ (List.mem_of_getElem? (Aa o)))).mono ?_;rintro e w3 ⟨rfl,wv,u⟩;have l:=Ab u;clear z u c2 f0 f1 f2 e0 e2 e3 e4;go_wp2;go_ret;exact⟨rfl,_,_,⟨⟨fr,m,s⟩,wv,by rw[Aa r];exact Aa o,.inr (.inr (.inl ⟨rfl,rfl,rfl⟩))⟩,Aa l⟩
 ·have l:=Ab (fun wx (y:Below (((w.alloc (.cells #[.int .i64 6,.int .i64 nd,.int .i64 n,.int .i64 a,.int .i64 b,v] 42)).drewN nq).alloc (.cells #[.int .i64 fr,.int .i64 (m:Int),.string s] 99)).heap.size _ wx)=>(show wx.cell? ⟨q,2,none⟩=some (.slice (some ⟨g,0,none⟩) T.fs.length c)/\wx.cell? ⟨g,i*3+2,none⟩=some (.string s)/\wx.frozen? ⟨g,i*3+2,none⟩=false/\wx.cell? ⟨w.heap.size+1,2,none⟩=some (.string s)/\wx.cell? ⟨w.heap.size,3,none⟩=some (.int .i64 a)/\wx.cell? ⟨w.heap.size,4,none⟩=some (.int .i64 b)/\Hid (A3 w0 (wx.setCell ⟨g,i*3+2,none⟩ (.string (Ic s a b))) q P (T.fly T.wv (T.fs.set i ((⟨fr,m,s⟩:AG).bear (Ic s a b)))) k) from by
   have h4:=z.nj.below y;have c4:=h4.net.blk.at 2 rfl;have o4:=h4.net.fly;rw[Aa HV]at c4 o4;refine⟨c4,?_,o4.frz _,(z.box.below y).at 2 rfl,(D.below y).at 3 rfl,(D.below y).at 4 rfl,aA h4 (Aa HV) (Aa o) (jM _ _ _)⟩;obtain⟨g',c',e',ae⟩:=o4.at hf;simp only[Value.slice.injEq,Option.some.injEq,Addr.mk.injEq,and_true,true_and]at e';obtain⟨rfl,rfl⟩:=e';have:=(ae i A).2.2;rwa[List.getD_eq_getElem?_getD,Aa o]at this))
  have g1:g≠q:=(Aa HG).1;have g2:g≠w.heap.size+1:=by have:=(Aa HG).2;omega
  have g3:g≠w.heap.size:=by have:=(Aa HG).2;omega
  have p2:=z.box.at 2 rfl;have g4:=g1.symm;have g5:=g2.symm;have g6:=g3.symm;clear z hz D
  go_region_held3 (fun w'=>w'.cell? ⟨q,2,none⟩=some (.slice (some ⟨g,0,none⟩) T.fs.length c)/\w'.cell? ⟨w.heap.size+1,2,none⟩=some (.string s)/\w'.cell? ⟨w.heap.size,3,none⟩=some (.int .i64 a)/\w'.cell? ⟨w.heap.size,4,none⟩=some (.int .i64 b)) (go_keep) (first
   |(go_at_call 55;refine(Aa ad _).mono ?_;rintro e w3 ⟨rfl,d⟩;obtain⟨y1,y2,y3,y4,y5,y6,ac⟩:=Aa l w3 (by first|exact(I4 (Below.refl _ _) _).trans d|exact(Below.refl _ _).drew.trans d|exact d);clear d)
   |fail)
  all_goals go_wp2
  all_goals go_ret
  all_goals exact⟨rfl,_,_,⟨⟨fr,m,s⟩,T.wv,by rw[Aa r];exact Aa o,.inr (.inr (.inr ⟨rfl,by rw[Aa r],rfl⟩))⟩,Aa ac⟩
def Qu(T:AK)(kd nd:Int):Prop:=(kd<1\/7<kd)\/((kd=2\/kd=7)/\¬(0<=nd/\nd<T.ns.length))\/((kd=3\/kd=4\/kd=5\/kd=6)/\T.fs=[])
def E9(T:AK)(kd nd n a b:Int)(L:List Nat)(k:Nat)(ok:Bool)(T':AK)(k':Nat):Prop:=
 (ok=true/\kd=1/\∃wv,T'=Fx T (min (max n 0) 1048576) T.ns.length wv/\k'=k+2*T.ns.length)\/
 (ok=true/\kd=2/\∃(i:Nat) (x:BS) (f:Bp) (wv:Value),nd=(i:Int)/\T.ns[i]? =some x/\Fa x.n L f/\T'=Nt T i x f wv/\k'=k+2)\/
 (ok=true/\kd=7/\∃(i:Nat) (x:BS) (s:AZ),nd=(i:Int)/\T.ns[i]? =some x/\Hq x.n.p s/\T'=T.setN i x.g ⟨x.n.id,(x.n.inc+1)%4294967296,x.n.p,x.n.src,s,x.n.t+1⟩/\k'=k+1)\/
 (ok=true/\(kd=3\/kd=4\/kd=5\/kd=6)/\0<T.fs.length/\Nr T kd n a b k T' k')\/
 (ok=false/\Qu T kd nd/\T'=T/\k'=k)
theorem Hf{P:Nat->A9}(h:A3 w0 w q P T k)(ht:Bt w0)(O:k<=1000000)(kd nd n a b:Int){u:Option Addr}{dn:Nat}(dc:Nat){L:List Nat}(N:RowAt w u dn L)(K:dn<=1048576):
  Calls Tryz.prog 13 #[.pointer (some ⟨q,0,none⟩),.agg #[.int .i64 kd,.int .i64 nd,.int .i64 n,.int .i64 a,.int .i64 b,.slice u dn dc]] w fun e w'=> ∃ok T' k',e=.returned (.bool ok)/\E9 T kd nd n a b L k ok T' k'/\A3 w0 w' q P T' k':=by
 have r:=Ax w (.cells (evC kd nd n a b (.slice u dn dc)).toArray 42);have z:=Ab (AN 42 w (evC kd nd n a b (.slice u dn dc)));have g:=h.below r;have c:=N.below r;have S:=(Aa z).at 0 rfl;have V:=(Aa z).at 1 rfl;have W:=(Aa z).at 2 rfl;have X:=(Aa z).at 3 rfl;have Y:=(Aa z).at 4 rfl;have Z:=(Aa z).at 5 rfl;have h8:=h.net.few.1;clear h r N;simp only[evC]at z g c S V W X Y Z;by_cases C:kd=1
 ·subst C
  have ab:=JF n 0;have aa:=Iv (max n 0) 1048576;have m:=Ab (ir g (min (max n 0) 1048576) (by omega));clear g c;generalize hg:min (max n 0) 1048576=d at*;go_enter Tryz.func13,Tryz.ntmps13
  go_wp2_with (first
   |(go_at_call 27;refine(Aa m).mono ?_;rintro e w1 ⟨rfl,wv,o⟩;have j:=Ab o;clear o)
   |fail)
  go_ret;exact⟨true,_,_,rfl,.inl ⟨rfl,rfl,wv,by rw[hg],rfl⟩,Aa j⟩
 by_cases D:kd=2
 ·subst D
  by_cases l:0<=nd/\nd<T.ns.length
  ·obtain⟨i,rfl⟩:∃i:Nat,nd=(i:Int):=⟨nd.toNat,by omega⟩
   obtain⟨x,B⟩:∃x,T.ns[i]? =some x:=⟨_,List.getElem?_eq_getElem (by omega)⟩;have m:=Ab (kb g ht B O dc c K n a b);clear g c l;go_enter Tryz.func13,Tryz.ntmps13
   go_wp2_with (first
    |(go_at_call 28;refine(Aa m).mono ?_;rintro e w1 ⟨rfl,f,wv,A,o⟩;have j:=Ab (And.intro A o);clear A o)
    |fail)
   go_ret;exact⟨true,_,_,rfl,.inr (.inl ⟨rfl,rfl,i,x,f,wv,rfl,B,(Aa j).1,rfl,rfl⟩),(Aa j).2⟩
  ·have m:=Ab (TU q w0.heap.size T 2 nd n a b (.slice u dn dc) _ g.net l)
   have y:=Ab g;clear g c;go_enter Tryz.func13,Tryz.ntmps13
   go_wp2_with (first
    |(go_at_call 28;refine(Aa m).mono ?_;rintro e w1 ⟨rfl,v⟩;have j:=Ab ((Aa y).below v);clear v)
    |fail)
   go_ret;exact⟨false,_,_,rfl,.inr (.inr (.inr (.inr ⟨rfl,.inr (.inl ⟨.inl rfl,l⟩),rfl,rfl⟩))),Aa j⟩
 by_cases H:kd=7
 ·subst H
  by_cases l:0<=nd/\nd<T.ns.length
  ·obtain⟨i,rfl⟩:∃i:Nat,nd=(i:Int):=⟨nd.toNat,by omega⟩
   obtain⟨x,B⟩:∃x,T.ns[i]? =some x:=⟨_,List.getElem?_eq_getElem (by omega)⟩;have m:=Ab (et g B n a b (.slice u dn dc));clear g c l;go_enter Tryz.func13,Tryz.ntmps13
   go_wp2_with (first
    |(go_at_call 28;refine(Aa m).mono ?_;rintro e w1 ⟨rfl,s,Q,o⟩;have j:=Ab (And.intro Q o);clear Q o)
    |fail)
   go_ret;exact⟨true,_,_,rfl,.inr (.inr (.inl ⟨rfl,rfl,i,x,s,rfl,B,(Aa j).1,rfl,rfl⟩)),(Aa j).2⟩
  ·have m:=Ab (TU q w0.heap.size T 7 nd n a b (.slice u dn dc) _ g.net l)
   have y:=Ab g;clear g c;go_enter Tryz.func13,Tryz.ntmps13
   go_wp2_with (first
    |(go_at_call 28;refine(Aa m).mono ?_;rintro e w1 ⟨rfl,v⟩;have j:=Ab ((Aa y).below v);clear v)
    |fail)
   go_ret;exact⟨false,_,_,rfl,.inr (.inr (.inr (.inr ⟨rfl,.inr (.inl ⟨.inr rfl,l⟩),rfl,rfl⟩))),Aa j⟩
 by_cases E:kd=3\/kd=4\/kd=5\/kd=6
 ·by_cases A:0<T.fs.length
  ·have m:=Ab (pf g ht O A kd nd n a b E (.slice u dn dc))
   have I:=Ab A;clear g c C D H A;rcases E with rfl|rfl|rfl|rfl
   all_goals go_enter Tryz.func13,Tryz.ntmps13
   all_goals go_wp2_with (first
    |(go_at_call 29;refine(Aa m).mono ?_;rintro e w1 ⟨rfl,T',k',hp,o⟩;have j:=Ab (And.intro hp o);clear hp o)
    |fail)
   all_goals go_ret
   all_goals exact⟨true,_,_,rfl,.inr (.inr (.inr (.inl ⟨rfl,by decide,Aa I,(Aa j).1⟩))),(Aa j).2⟩
  ·have J:T.fs=[]:=List.eq_nil_of_length_eq_zero (by omega)
   have m:=Ab (Y7 g J kd nd n a b (.slice u dn dc));have y:=Ab g;have I:=Ab J;clear g c C D H A J;rcases E with rfl|rfl|rfl|rfl
   all_goals go_enter Tryz.func13,Tryz.ntmps13
   all_goals go_wp2_with (first
    |(go_at_call 29;refine(Aa m).mono ?_;rintro e w1 ⟨rfl,v⟩;have j:=Ab ((Aa y).below v);clear v)
    |fail)
   all_goals go_ret
   all_goals exact⟨false,_,_,rfl,.inr (.inr (.inr (.inr ⟨rfl,.inr (.inr ⟨by decide,Aa I⟩),rfl,rfl⟩))),Aa j⟩
 ·have y:=Ab g
  have R:=Ab (show kd<1\/7<kd by omega);have b1:(kd==1)=false:=by rw[beq_eq_false_iff_ne];omega
  have b2:(kd==2)=false:=by rw[beq_eq_false_iff_ne];omega
  have b3:(kd==3)=false:=by rw[beq_eq_false_iff_ne];omega
  have b4:(kd==4)=false:=by rw[beq_eq_false_iff_ne];omega
  have b5:(kd==5)=false:=by rw[beq_eq_false_iff_ne];omega
  have b6:(kd==6)=false:=by rw[beq_eq_false_iff_ne];omega
  have b7:(kd==7)=false:=by rw[beq_eq_false_iff_ne];omega
  clear g c C D E H;go_enter Tryz.func13,Tryz.ntmps13;go_wp2;go_ret;exact⟨false,_,_,rfl,.inr (.inr (.inr (.inr ⟨rfl,.inl (Aa R),rfl,rfl⟩))),Aa y⟩
theorem BJ.below(h:BJ w f)(c:Below w.heap.size w w'):BJ w' f:=⟨h.nds.below c,h.len,h.obj,h.rate,h.tos,h.caps⟩
theorem BJ.node(h:BJ w f){i:Nat}(d:i<f.n):∃b off,f.a=some ⟨b,off,none⟩/\w.cell? ⟨b,off+i*2,none⟩=some (.int .i64 (f.ds.getD i .dflt).kd)/\w.cell? ⟨b,off+i*2+1,none⟩=some (.slice (f.ds.getD i .dflt).a (f.ds.getD i .dflt).n (f.ds.getD i .dflt).c):=by
 obtain⟨b,off,e,g⟩:=h.nds.at d;exact⟨b,off,e,g i d⟩
theorem WY(h:BJ w f)(j:Br f 0)(c:i<f.n):GY w f i/\f.n<=8:=by
 rcases j with⟨hp,d⟩|⟨_,d⟩
 ·obtain⟨⟨m,o,_⟩,g,_⟩:=hp
  obtain⟨v,l,_⟩:=g i c;obtain⟨Z,r,s,u,e⟩:=rI d.symm;have x:=(h.nds.2.1 i c).1;refine⟨⟨h.nds,c,by omega,by omega,by omega,(h.tos i c).2,h.rate,⟨by omega,by omega,o.1,?_⟩⟩,m.2⟩;rw[r];exact e
 ·exact absurd d (by decide)
theorem fw:(Tryz.prog.info? 90).map (fun i=>(i.zero,i.size,i.bytes))=some (some (.pointer none),1,8):=by kernel_rfl
theorem cY{ops:Array Oper}{o:Oper}{a:Act}{K:Act->World->Prop}{Q:Exit->Act->World->Prop}{E:Prop}(d:o.guard=none)(s x:Operand)
  (D:o.op=.call {callee:=.builtin .append,args:=#[s,x],argTypes:=#[87,87]}) (B:Nat) (v:Value) (ls:List BS) (l:BS) (H:a.eval s=v) (c:w.ownsRow B 90 1 v ls.length (Eu ls)) (b:Nat)
  (J:a.eval x=.slice (some ⟨b,0,none⟩) 1 1) (A:w.heap[b]? =some (.cells #[.pointer (some ⟨l.g,0,none⟩)] 90 (0,0))) (P:ls.length<=1000000) (z:B<=w.heap.size)
  (h:∀g cap w',w'.ownsRow B 90 1 (.slice (some ⟨g,0,none⟩) (ls.length+1) cap) (ls++[l]).length (Eu (ls++[l]))->w.grownBy w' v.ownBlock->K (a.put o.dst (.slice (some ⟨g,0,none⟩) (ls.length+1) cap)) w'):
  if Region.wanted o (yielded ops a.tmps)=true then Oper.wp Tryz.prog o a w K Q else E:=by
 obtain⟨N,C,e,j,m⟩:=info_parts fw
 refine step_append_lies w d s x 87 D B 90 N (.pointer none) 1 8 Tryz.underlying87 C e j m rfl (by decide) v ls.length (Eu ls) H c ⟨b,0,none⟩ 1 1 [.pointer (some ⟨l.g,0,none⟩)] J rfl
  (World.news_of_block A) (fun u I=>by rw[List.mem_singleton.1 I];rfl) (by decide) (by unfold maxLen;omega) (by omega) z _ rfl (fun g cap w' r y O _=>h g cap w' ?_ y)
 rw[List.length_append,show Eu (ls++[l])=Eu ls++[Value.pointer (some ⟨l.g,0,none⟩)] by simp[Eu]];exact r
theorem AB.push{w2 w3:World}{B:Nat}(h:AB w q B ⟨nv,ns,0,.slice none 0 0,[]⟩)(R:Below w.heap.size w w1){g:Nat}{n:Ao}(K:Al w1 g w.heap.size n)(Q:B<=w.heap.size)(r:Below w1.heap.size w1 w2){v:Value}
  (N:w3.ownsRow B 90 1 v (ns++[(⟨g,n⟩:BS)]).length (Eu (ns++[⟨g,n⟩]))) (H:w2.grownBy w3 nv.ownBlock) (J:ns.length<=7):AB (w3.setCell ⟨q,0,none⟩ v) q B ⟨v,ns++[⟨g,n⟩],0,.slice none 0 0,[]⟩:=by
 have P:=h.below R;have o:=P.below r;have S:=o.blk.kd;have O:∀j,nv.ownBlock=some j->kdB w2 j=90+2:=fun j e=>Bu o.own e;have z:some q≠nv.ownBlock:=fun e=>by have:=O q e.symm;omega
 have ht:Tu (fun j=>j=q\/nv.ownBlock=some j) w2 (w3.setCell ⟨q,0,none⟩ v):=(Tu.of_gb (F:=fun j=>j=q\/nv.ownBlock=some j) H fun j _ e=>.inr e).trans (Be w3 q 0 v) fun j _ e=>.inl e
 have A:∀j,(j=q\/nv.ownBlock=some j)->kdB w2 j=89+2\/kdB w2 j=90+2:=fun j e=>by
  rcases e with rfl|e
  ·exact .inl S
  ·exact .inr (O j e)
 have d:∀(i:Nat) (x:BS),(ns++[⟨g,n⟩])[i]? =some x->(ns[i]? =some x/\i<ns.length)\/(i=ns.length/\x=⟨g,n⟩):=fun i x c=>by
  by_cases e:i<ns.length
  ·rw[List.getElem?_append_left e]at c
   exact .inl ⟨c,e⟩
  ·rw[List.getElem?_append_right (by omega)]at c
   have J:=(List.getElem?_eq_some_iff.1 c).1;have:i=ns.length:=by simp at J;omega
   subst this;simp at c;exact .inr ⟨rfl,c.symm⟩
 have l:∀j,Bg g n j->w.heap.size<=j:=fun j e=>K.low j e;have hold:∀(i:Nat) (x:BS),ns[i]? =some x->∀j,Bg x.g x.n j->j<w.heap.size:=fun i x c j e=>(h.each i x c).lt j e;refine⟨(o.blk.kept H z).set 0 v,h.lo,CO N (Be w3 q 0 v) fun j m e=>?_,fun i x c=>?_,fun i k x y c C s j D E=>?_,Ap.nil _ _,⟨by show(ns++[_]).length<=8;rw[List.length_append];exact Nat.succ_le_succ J,Nat.zero_le _⟩,⟨Int.le_refl _,(by decide:(0:Int)<=1099511627776)⟩⟩
 ·have V:=Bu N m
  have W:=(o.blk.kept H z).kd;subst e;omega
 ·rcases d i x c with⟨c,_⟩|⟨_,rfl⟩
  ·exact(o.each i x c).tu ht (fun j m e=>by have:=(o.each i x c).nn j m;have:=A j e;omega) fun j m e=>(by have:=A j e;omega)
  ·have u:=(K.mono Q).below r
   exact u.tu ht (fun j m e=>by have:=u.nn j m;have:=A j e;omega) fun j m e=>(by have:=A j e;omega)
 ·rcases d i x c with⟨c,_⟩|⟨rfl,rfl⟩<;>rcases d k y C with⟨C,_⟩|⟨I,rfl⟩
  ·exact h.apart i k x y c C s j D E
  ·have:=hold i x c j D;have:=l j E;omega
  ·have:=hold k y C j E;have:=l j D;omega
  ·exact s I.symm
def Qq(T:AK)(i:Nat):A9:=match T.ns[i]? with
 |some x=>x.n.p
 |none=>⟨0,0,0,0,0,0,0,.slice none 0 0,[]⟩
structure GZ(f:Bl)(T:AK):Prop where
 len:T.ns.length=f.n
 now:T.now=0
 fs:T.fs=[]
 node:∀i x,T.ns[i]? =some x->F5 f i x.n
theorem XS{B:Nat}(c:GZ f T)(h:AB w' q B T)(e:BJ w f)(r:Br f 0):H4 (Qq T) T 0:=by
 refine⟨fun i x d=>?_,fun f o=>by rw[c.fs]at o;cases o⟩;have N:=c.node i x d;have l:i<f.n:=by have:=(List.getElem?_eq_some_iff.1 d).1;have:=c.len;omega
 obtain⟨g,u⟩:=WY e r l;refine⟨N.id,by unfold Qq;rw[d],ZE g (by omega) N (h.each i x d),CJ.new N.new,by rw[N.tm];exact Nat.le_refl _,by rw[N.rate];exact e.rate,fun j s=>?_⟩;rw[N.tos,c.len];rw[N.tos]at s;rcases r with⟨hp,m⟩|⟨_,m⟩
 ·have:=hp.2.1 i l
  have ht:=this.2.2 j (by have:=(e.nds.2.1 i l).1;omega);omega
 ·exact absurd m (by decide)
structure H6(w0 w:World)(q p:Nat)(f:Bl)(nv:Value)(ns:List BS):Prop where
 net:AB w q w0.heap.size ⟨nv,ns,0,.slice none 0 0,[]⟩
 node:∀(i:Nat) (x:BS),ns[i]? =some x->F5 f i x.n
 low:Below w0.heap.size w0 w
 box:BkA 25 w p [.slice f.a f.n f.c,.string f.obj,.int .i64 f.size,.int .i64 f.spread,.int .i64 f.buffer,.int .i64 f.queue,.int .i64 f.cache,.float .f64 f.rate,.int .i64 f.timeout,.int .i64 f.target]
 bq:p≠q
theorem H6.below(h:H6 w0 w q p f nv ns)(c:Below w.heap.size w w'):H6 w0 w' q p f nv ns:=⟨h.net.below c,h.node,Ad h.low c,h.box.below c,h.bq⟩
theorem H6.push{w2 w3:World}(h:H6 w0 w q p f nv ns)(u:Below w.heap.size w w1){g:Nat}{n:Ao}(B:Al w1 g w.heap.size n)(z:F5 f ns.length n)(l:Below w1.heap.size w1 w2){v:Value}
  (C:w3.ownsRow w0.heap.size 90 1 v (ns++[(⟨g,n⟩:BS)]).length (Eu (ns++[⟨g,n⟩]))) (o:w2.grownBy w3 nv.ownBlock) (r:ns.length<=7):H6 w0 (w3.setCell ⟨q,0,none⟩ v) q p f v (ns++[⟨g,n⟩]):=by
 have d:=(h.below u).below l;have y:=h.low.size;have m:=d.box;have A:=m.kd;have s:some p≠nv.ownBlock:=fun e=>by have:=Bu d.net.own e.symm;omega
 refine⟨h.net.push u B y l C o r,fun i x c=>?_,?_,(m.kept o s).tu (Be w3 q 0 v) h.bq,h.bq⟩
 ·by_cases e:i<ns.length
  ·rw[List.getElem?_append_left e]at c
   exact h.node i x c
  ·rw[List.getElem?_append_right (by omega)]at c
   have r:=(List.getElem?_eq_some_iff.1 c).1;have:i=ns.length:=by simp at r;omega
   subst this;simp at c;subst c;exact z
 ·have ht:Tu (fun j=>j=q\/nv.ownBlock=some j) w2 (w3.setCell ⟨q,0,none⟩ v):=(Tu.of_gb (F:=fun j=>j=q\/nv.ownBlock=some j) o fun j _ e=>.inr e).trans (Be w3 q 0 v) fun j _ e=>.inl e
  refine d.low.trans (ht.below d.low.size fun j D e=>?_);rcases e with e|e
  ·have:=h.net.lo;omega
  ·have:=(EP d.net.own e).1;omega
theorem Ot(f:Bl)(w:World)(h:BJ w f):
  Calls Tryz.prog 9 #[f.val] w fun e w'=>Below w.heap.size w w'/\∃en:Int,Br f en/\((en≠0/\e=.returned (.tuple #[.pointer none,.int .i64 en]))\/(en=0/\∃(q:Nat) (T:AK),e=.returned (.tuple #[.pointer (some ⟨q,0,none⟩),.int .i64 0])/\GZ f T/\A3 w w' q (Qq T) T 0)):=by
 have u:=Ax w (.cells #[.slice f.a f.n f.c,.string f.obj,.int .i64 f.size,.int .i64 f.spread,.int .i64 f.buffer,.int .i64 f.queue,.int .i64 f.cache,.float .f64 f.rate,.int .i64 f.timeout,.int .i64 f.target] 25);have A:=AN 25 w [.slice f.a f.n f.c,.string f.obj,.int .i64 f.size,.int .i64 f.spread,.int .i64 f.buffer,.int .i64 f.queue,.int .i64 f.cache,.float .f64 f.rate,.int .i64 f.timeout,.int .i64 f.target];have HC:=Ab (Oq f _ (h.below u) h.caps);have ae:=A.load Tryz.underlying25 rfl KZ rfl;have C:=Ab u;have J:=Ab A;have HH:=Ab h;have ah:=h.len;clear u A h;unfold Bl.val at*;go_enter Tryz.func9,Tryz.ntmps9;go_wp2_with fail;refine(Aa HC).mono ?_;rintro e w1 ⟨en,rfl,hr,g⟩;have W:=Ab hr;have l:=Ab (Ad (Aa C) g);have m:=Ab ((Aa J).below g);clear HC ae hr g;by_cases X:en=0
 case neg=>
  have hd:(en !=0)=true:=by simp[X]
  have V:=Ab X;clear X;go_wp2;go_ret2;exact⟨Aa l,en,Aa W,.inl ⟨Aa V,rfl⟩⟩
 subst X;have v:∀i,i<f.n->GY w f i/\f.n<=8:=fun i hi=>WY (Aa HH) (Aa W) hi;have Z:=Ab v
 have H8:Hid (f.n<=8):=Ab (by
  by_cases e:0<f.n
  ·exact(v 0 e).2
  ·omega)
 have D:Hid (H6 w (w1.alloc (.cells #[.slice none 0 0,.int .i64 0,.slice none 0 0] 89)) w1.heap.size w.heap.size f (.slice none 0 0) []):=Ab (by
  have hb:=Ad (Aa l) (Ax w1 (.cells #[.slice none 0 0,.int .i64 0,.slice none 0 0] 89));refine⟨⟨AN 89 w1 [.slice none 0 0,.int .i64 0,.slice none 0 0],(Aa l).size,World.ownsRow_nil _ _ _ _,fun i x S=>(by cases S),fun i k x y S=>(by cases S),Ap.nil _ _,⟨Nat.zero_le _,Nat.zero_le _⟩,⟨Int.le_refl _,(by decide:(0:Int)<=1099511627776)⟩⟩,fun i x S=>(by cases S),hb,(Aa m).below (Ax _ _),Nat.ne_of_lt (Aa m).lt⟩)
 have x0:=((Aa m).below (Ax w1 (.cells #[.slice none 0 0,.int .i64 0,.slice none 0 0] 89))).at 0 rfl;have ag:=Ab (Nat.le_trans (Aa l).size (Nat.le_refl w1.heap.size));clear v m J C;generalize hq:w1.heap.size=q at*;go_wp2_with fail;generalize w1.alloc (.cells #[.slice none 0 0,.int .i64 0,.slice none 0 0] 89)=W1 at*;clear hq;go_loopw [17] (fun i wr=> ∃(nv:Value) (ns:List BS),ns.length<=f.n/\i=.int .i64 (ns.length:Nat)/\Hid (H6 w wr q w.heap.size f nv ns)) (fun i _=>f.n-(intOf i).toNat)
 case atStart=>exact⟨.slice none 0 0,[],Nat.zero_le _,rfl,D⟩
 case round=>
  obtain⟨nv,ns,hm,rfl,s⟩:=hrel;rename_i wr;clear D x0;by_cases O:ns.length<f.n
  ·have af:(ns.length:Int)<(f.n:Int):=by omega
   have d:=Aa s;have r:=d.low.size;have q0:=d.net.blk.at 0 rfl;have b0:=d.box.at 0 rfl;have b1:=d.box.at 1 rfl;have b2:=d.box.at 2 rfl;have b3:=d.box.at 3 rfl;have b4:=d.box.at 4 rfl;have b5:=d.box.at 5 rfl;have b6:=d.box.at 6 rfl;have b7:=d.box.at 7 rfl;have b8:=d.box.at 8 rfl;have b9:=d.box.at 9 rfl
   have V:=Ab (fun wx (hb:Below wr.heap.size wr wx)=>lG f ns.length wx (by
    obtain⟨a1,a2,a3,a4,a5,a6,a7,a8⟩:=(Aa Z ns.length O).1;exact⟨a1.below (d.low.trans (hb.mono r)),a2,a3,a4,a5,a6,a7,a8⟩))
   have ab:=Ab (show ns.length<=1000000 by have:=Aa H8;omega);have aa:=Ab (show ns.length<=7 by have:=Aa H8;omega);clear d;unfold Bl.val at V;go_wp2_with fail
   go_region_law (first
    |(go_simp;go_at_call 22;refine(Aa V _ (by first|exact(Below.refl _ _).drew|exact I4 (Below.refl _ _) _)).mono ?_;rintro e w2 ⟨o,n1,rfl,P,N,g⟩;have B:=Ab (show Below wr.heap.size wr w2 from(Below.refl _ _).drew.trans g);have k0:=(((Aa s).below (Aa B)).net.blk).at 0 rfl;have ai:=((((Aa s).below (Aa B)).below (Ax w2 (.cells #[.pointer (some ⟨o,0,none⟩)] 90))).net.blk).at 0 rfl;have H:=Ab (And.intro (show Al w2 o wr.heap.size n1 from P) N);have I:=Ab ((((Aa s).below (Aa B)).below (Ax w2 (.cells #[.pointer (some ⟨o,0,none⟩)] 90))).net.own);have ad:=Ab (show w.heap.size<=(w2.alloc (.cells #[.pointer (some ⟨o,0,none⟩)] 90)).heap.size from Nat.le_trans (Nat.le_trans r (Aa B).size) (Ax _ _).size);have E:=Ab ((((Aa s).below (Aa B)).below (Ax w2 (.cells #[.pointer (some ⟨o,0,none⟩)] 90))).net.blk);clear P N g)
    |(refine cY (by rfl) (.tmp 24) (.tmp 28) (by rfl) w.heap.size nv ns ⟨o,n1⟩ (by rfl) (Aa I) w2.heap.size (by rfl) (AN 90 w2 [.pointer (some ⟨o,0,none⟩)]) (Aa ab) (Aa ad) ?_;intro g2 K w3 R j;have z:=(Aa E).kept j (fun e=>by have:=Bu (Aa I) e.symm;have:=(Aa E).kd;omega);have t0:=z.at 0 rfl;have tf:=z.frz 0;have ac:=Ab R;have Y:=Ab j;clear z R j)
    |fail)
   all_goals go_wp2
   all_goals go_round
   all_goals first
    |(simp[intOf];omega)
    |exact⟨.slice (some ⟨g2,0,none⟩) (ns.length+1) K,ns++[⟨o,n1⟩],by rw[List.length_append];exact O,by rw[List.length_append];go_num,Ab ((Aa s).push (Aa B) (Aa H).1 (Aa H).2 (Ax _ _) (Aa ac) (Aa Y) (Aa aa))⟩
  ·have he:ns.length=f.n:=by omega
   go_wp2;go_ret2;have d:=Aa s;have Q:GZ f ⟨nv,ns,0,.slice none 0 0,[]⟩:=⟨he,rfl,rfl,d.node⟩;exact⟨d.low,0,Aa W,.inr ⟨rfl,q,_,rfl,Q,d.net,XS Q d.net (Aa HH) (Aa W),d.low⟩⟩
theorem Yz{n:Int}(h:E9 T 1 nd n a b L k ok T' k'):ok=true/\∃wv,T'=Fx T (min (max n 0) 1048576) T.ns.length wv/\k'=k+2*T.ns.length:=by
 rcases h with⟨d,_,h⟩|⟨_,c,_⟩|⟨_,c,_⟩|⟨_,c,_⟩|⟨_,c,_⟩
 ·exact⟨d,h⟩
 ·omega
 ·omega
 ·omega
 ·rcases c with c|⟨c,_⟩|⟨c,_⟩<;>omega
theorem QS{x:BS}{n:Int}(h:E9 T 2 (i:Int) n a b L k ok T' k')(d:T.ns[i]? =some x):ok=true/\∃f wv,Fa x.n L f/\T'=Nt T i x f wv/\k'=k+2:=by
 have r:=(List.getElem?_eq_some_iff.1 d).1;rcases h with⟨_,c,_⟩|⟨g,_,j,y,f,wv,s,e,m,l,o⟩|⟨_,c,_⟩|⟨_,c,_⟩|⟨_,c,_⟩
 ·omega
 ·obtain rfl:i=j:=by omega
  rw[d]at e;cases e;exact⟨g,f,wv,m,l,o⟩
 ·omega
 ·omega
 ·rcases c with c|⟨_,c⟩|⟨c,_⟩
  ·omega
  ·exact absurd (by omega) c
  ·omega
theorem M0{kd n:Int}(h:E9 T kd nd n a b L k ok T' k')(g:3<=kd/\kd<=6)(e:T.fs≠ []):ok=true/\Nr T kd n a b k T' k':=by
 rcases h with⟨_,c,_⟩|⟨_,c,_⟩|⟨_,c,_⟩|⟨d,_,_,h⟩|⟨_,c,_⟩
 ·omega
 ·omega
 ·omega
 ·exact⟨d,h⟩
 ·rcases c with c|⟨c,_⟩|⟨_,c⟩
  ·omega
  ·omega
  ·exact absurd c e
theorem Ri{kd n:Int}(h:E9 T kd nd n a b L k ok T' k')(c:Qu T kd nd):ok=false/\T'=T/\k'=k:=by
 rcases h with⟨_,d,_⟩|⟨_,d,i,x,_,_,l,e,_⟩|⟨_,d,i,x,_,l,e,_⟩|⟨_,d,g,_⟩|⟨j,_,h⟩
 ·rcases c with h|⟨h,_⟩|⟨h,_⟩<;>omega
 ·have:=(List.getElem?_eq_some_iff.1 e).1
  rcases c with h|⟨_,h⟩|⟨h,_⟩
  ·omega
  ·exact absurd (by omega) h
  ·omega
 ·have:=(List.getElem?_eq_some_iff.1 e).1
  rcases c with h|⟨_,h⟩|⟨h,_⟩
  ·omega
  ·exact absurd (by omega) h
  ·omega
 ·rcases c with h|⟨h,_⟩|⟨_,h⟩
  ·omega
  ·omega
  ·rw[h]at g;cases g
 ·exact⟨j,h⟩
def Ey(a x y:Nat):Bl:=⟨some ⟨a,0,none⟩,3,3,[⟨1,some ⟨x,0,none⟩,1,1,[1]⟩,⟨2,some ⟨y,0,none⟩,1,1,[2]⟩,⟨3,none,0,0,[]⟩],⟨#[97]⟩,1,0,4,4,0,4607182418800017408,5,1⟩
def IE:PD:=⟨0,1,1,1,0,[1],⟨#[97]⟩⟩
def EH:PD:=⟨0,1,1,1,1,[1],⟨#[97]⟩⟩
def Bh(n:Ao):Prop:=n.p.queue=4/\∀i,i<n.s.ls.length->(n.s.ls.getD i .dflt).lv=4000/\(n.s.ls.getD i .dflt).L=[]
theorem Bh.new(h:Hq n.p n.s)(c:n.p.queue=4):Bh n:=⟨c,fun i d=>by
 obtain⟨a,b,_⟩:=h.1.1 i d;rw[c]at a;exact⟨a.trans (by decide),b⟩⟩
theorem Bh.fly(h:Bh n):∀k,k<=n.s.ls.length->flyTo n k=[]
 |0,_=>rfl
 |k+1,c=>by
  show flyTo n k++Dl n k (EF n k)=[];rw[h.fly k (by omega),List.nil_append];unfold Dl;rw[(h.2 k (by omega)).2,List.take_nil];rfl
theorem Bh.tick(h:Bh n):Bh (BX 3 n):=⟨h.1,fun i d=>by
 have c:i<n.s.ls.length:=by rwa[BX,Fg]at d
 unfold BX;rw[Mr c];refine⟨?_,(h.2 i c).2⟩;show Gr n.p.M (1000*By n.p.queue 1 256) (n.s.ls.getD i .dflt).lv 3=4000;rw[h.1,(h.2 i c).1];have e:0<=n.p.M:=Int.natCast_nonneg _;unfold Gr;rw[show By 3 0 1048576=3 from by decide,show 1000*By 4 1 256=4000 from by decide];omega⟩
theorem Bh.pump(h:Bh n):Bh (n.each Cx):=⟨h.1,fun i d=>by
 have c:i<n.s.ls.length:=by rwa[Fg]at d
 rw[Mr c];obtain⟨a,b⟩:=h.2 i c;have hp:DT (n.s.ls.getD i .dflt).L (n.s.ls.getD i .dflt).lv=0:=by rw[b];unfold DT;simp
 refine⟨?_,?_⟩
 ·show(n.s.ls.getD i .dflt).lv-1000*(DT (n.s.ls.getD i .dflt).L (n.s.ls.getD i .dflt).lv:Int)=4000
  rw[hp,a];decide
 ·show(n.s.ls.getD i .dflt).L.drop _=[]
  rw[b];exact List.drop_nil⟩
theorem Bh.act(h:Bh n)(c:n.s.ls.length=1)(f:Bp):flyTo (EZ n f) n.s.ls.length=[⟨(n.id:Int),n.p.tos.getD 0 0,f.enc⟩]:=by
 obtain⟨a,b⟩:=h.2 0 (by omega);rw[c];show []++Dl (EZ n f) 0 (EF (EZ n f) 0)=_;unfold Dl EF EZ;rw[Mr (by omega)];have d:Dp (Fz n.p.queue f.enc) (n.s.ls.getD 0 .dflt)=(n.s.ls.getD 0 .dflt).now 4000 [f.enc] (n.s.ls.getD 0 .dflt).lo:=by
  unfold Dp Fz;rw[a,b,h.1];rfl
 rw[d];rfl
structure CU(n:Ao):Prop where
 id:n.id=0/\n.inc=0
 rest:Bh n
 len:n.s.ls.length=1
 tos:n.p.tos=[1]
 src:∃g v,n.src=some ⟨g,v,1,1,0,Bw (tx ⟨#[97]⟩) 1 1⟩
structure CR(n:Ao):Prop where
 id:n.id=1/\n.inc=0
 rest:Bh n
 len:n.s.ls.length=1
 tos:n.p.tos=[2]
 src:n.src=none
 num:n.p.timeout=5/\n.p.cache=0/\n.p.buffer=4/\n.p.target=1
 rl:∃r,n.s.rl=some r/\r.ps=[]
 Z:n.s.Z=List.replicate 16 0
 P:n.s.P=[]
structure CT(n:Ao):Prop where
 rest:Bh n
 num:n.p.cache=0/\n.p.buffer=4
 dc:∃d,n.s.dc=some d/\d.s=C9
 P:n.s.P=[]
theorem CU.tick(h:CU n):CU ((BX 3 n).each Cx):=⟨h.id,h.rest.tick.pump,by rw[Fg,BX,Fg];exact h.len,h.tos,h.src⟩
theorem CR.tick(h:CR n):CR ((BX 3 n).each Cx):=⟨h.id,h.rest.tick.pump,by rw[Fg,BX,Fg];exact h.len,h.tos,h.src,h.num,h.rl,h.Z,h.P⟩
theorem CT.tick(h:CT n):CT ((BX 3 n).each Cx):=⟨h.rest.tick.pump,h.num,h.dc,h.P⟩
theorem CU.em(h:CU n):C8 n []=some IE:=by
 obtain⟨g,v,e⟩:=h.src;unfold C8;rw[e,h.id.1];exact congrArg some (show J8 0 ⟨g,v,1,1,0,Bw (tx ⟨#[97]⟩) 1 1⟩ []=IE by kernel_rfl)
theorem Om:Ac [1]:=fun y c=>by cases List.mem_singleton.1 c;exact(by decide:(1:Nat)<18446744073709551616)
theorem Z5{r:F6}(d:n.src=none)(c:n.s.rl=some r):C8 n L=GN (r.ps.map PKV.pd) L 0 (Gk n.p.target):=by
 unfold C8;rw[d,c]
theorem CR.recv{c:Ao}{en:Nat}(h:CR n)(u:Hl n (FT 0 0 IE) 3 en c):(c.id=1/\c.inc=0)/\Bh c/\c.s.ls.length=1/\c.p.tos=[2]/\C8 c []=some EH/\(Hp (C5 c.p.timeout) c.s.Z 3).length=1:=by
 obtain⟨E,C,z,r1,o1,B,o,f1,A⟩:=We (d:=IE) Om (by decide) (by decide) (by kernel_rfl) u;obtain⟨y,D,t3,t4⟩:=h.num;obtain⟨r,g,j⟩:=h.rl;rw[h.P,t3]at f1;have e:Dw [] IE=true:=by kernel_rfl
 rw[e]at f1;obtain⟨l,v,_,_,_,m⟩:=f1.2 r g;rw[j]at m;have x:l.ps.map PKV.pd=[IE]:=m.trans (by kernel_rfl);subst o;refine⟨h.id,h.rest,h.len,h.tos,?_,?_⟩
 ·refine Eq.trans (Z5 (r:=l) h.src ?_) ?_
  ·exact v
  show GN (l.ps.map PKV.pd) [] 0 (Gk n.p.target)=some EH;rw[x,t4]
  kernel_rfl
 ·show(Hp (C5 n.p.timeout) (ED n.s.Z 0 0 3) 3).length=1
  rw[h.Z,y]
  kernel_rfl
theorem aP{q:PKV}{ob:ByteArray}(h:q.pd=EH)(v:Dn C9 q=true->AS 4 (Cy C9 q) (q.r.xs,q.r.s) ob):(FS 4 C9 q ob).dn=true/\(FS 4 C9 q ob).ob=⟨#[97]⟩:=by
 have j:(FS 4 C9 q ob).dn=true:=by
  obtain⟨o,l,k,z,x,a,n,c,xs,s⟩:=q;simp only[PKV.pd,EH,PD.mk.injEq]at h;obtain⟨rfl,rfl,rfl,rfl,rfl,rfl,rfl⟩:=h
  kernel_rfl
 have d:IJ ⟨#[97]⟩ 1 q:=by
  obtain⟨o,l,k,z,x,a,n,c,xs,s⟩:=q;simp only[PKV.pd,EH,PD.mk.injEq]at h;obtain⟨rfl,rfl,rfl,rfl,rfl,rfl,rfl⟩:=h;exact⟨by kernel_rfl,rfl,by kernel_rfl,rfl,by kernel_rfl⟩
 have g:q.r.xs=[1]/\q.r.s=⟨#[97]⟩:=by
  have m:q.pd.xs=[1]:=by rw[h];rfl
  have u:q.pd.s=⟨#[97]⟩:=by rw[h];rfl
  exact⟨m,u⟩
 have:=(Fc.zero ⟨#[97]⟩ 1).put (fun e=>by cases e) (by decide) d ⟨by rw[g.1];exact Om,by rw[g.2];decide,by rw[g.1];decide⟩ v;exact⟨j,this.told j⟩
theorem CT.recv{m:Ao}{en:Nat}(h:CT n)(v:Hl n (FT 1 0 EH) 3 en m):GS m.s=true/\GU m.s=⟨#[97]⟩:=by
 obtain⟨I,E,C,r1,o1,B,u,f1,e⟩:=We (d:=EH) Om (by decide) (by decide) (by kernel_rfl) v;obtain⟨H,t3⟩:=h.num;obtain⟨d,g,j⟩:=h.dc;rw[h.P,t3]at e;have c:Dw [] EH=true:=by kernel_rfl
 rw[c]at e;obtain⟨D,o,_,_,x⟩:=e.2 d g;obtain⟨A,l,r⟩:=x rfl;rw[j]at l r;obtain⟨y,z⟩:=aP B r;subst u;exact⟨(oB o).trans (by rw[l];exact y),(pn o).trans (by rw[l];exact z)⟩
end Go.Proofs.YtfpmnekaockodaaGreatDoor
