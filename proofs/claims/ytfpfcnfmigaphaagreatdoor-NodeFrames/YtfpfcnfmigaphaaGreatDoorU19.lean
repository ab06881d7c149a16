/-
  Laws that the proof stands on.
-/
import Derived.Test.YtfpfcnfmigaphaaGreatDoorU18
import Derived.ChangeKeysEq
import Derived.Deep.CutRange
import Derived.Maps.OwnOps
namespace Go.Proofs.YtfpfcnfmigaphaaGreatDoor
open Go.RowKit Go.Conc Go.Sort Go.Maps
set_option linter.unusedVariables false
set_option linter.unusedSimpArgs false
set_option maxRecDepth 4000
set_option maxHeartbeats 8000000
section
variable {Lv:Int}{L:List ByteArray}{t:Nat}{v:Value}{w:World}
def EF(L:List ByteArray)(Lv:Int):Nat:=min L.length (Lv/1000).toNat
theorem Vv(L:List ByteArray)(Lv:Int):EF L Lv<=L.length:=Nat.min_le_left _ _
theorem Vu(a:t<=L.length)(c:1000*(t:Int)<=Lv)(d:t=L.length\/Lv-1000*(t:Int)<1000):EF L Lv=t:=by unfold EF;omega
def Qv:Value->Nat
 | .slice _ n _=>n
 |_=>0
structure Ge(w wr:World)(g gb gq c:Nat)(M q Lv:Int)(L:List ByteArray)(lo t:Nat)(v:Value):Prop where
 lk:Au wr g gb gq c M q (Lv-1000*(t:Int)) (L.drop t) lo
 own:Ap wr w.heap.size v (L.take t)
 tu:Tu (lkF g gb gq c) w wr
 lt:(g<w.heap.size/\gb<w.heap.size)/\gq<w.heap.size/\c<w.heap.size
theorem Ap.tuL{F:Nat->Prop}{w':World}{B:Nat}{ss:List ByteArray}(h:Ap w B v ss)(ht:Tu F w w')(k:∀j,B<=j->¬F j):Ap w' B v ss:=by
 refine⟨h.1,?_⟩;rcases h.2 with e|⟨g,cap,c,f,d,a,r⟩
 ·exact .inl e
 ·exact .inr ⟨g,cap,c,f,d,(ht.block g (Array.getElem?_eq_some_iff.1 a).1 (k g d)).trans a,r⟩
theorem Ge.no{wr:World}{g gb gq c lo:Nat}{M q:Int}(h:Ge w wr g gb gq c M q Lv L lo t v){j:Nat}(a:w.heap.size<=j):¬lkF g gb gq c j:=fun e=>by
 have:=h.lt;rcases e with e|e|e|e<;>omega
theorem RJ(h:t<L.length):L.take t++[L.getD t ByteArray.empty]=L.take (t+1):=by
 rw[List.getD_eq_getElem?_getD,List.getElem?_eq_getElem h,Option.getD_some,List.take_append_getElem]
theorem nj(h:t<L.length):L.drop t=L.getD t ByteArray.empty::L.drop (t+1):=by
 rw[List.drop_eq_getElem_cons h,List.getD_eq_getElem?_getD,List.getElem?_eq_getElem h];rfl
theorem Ge.next{wr w1 w2 w3:World}{g gb gq c lo:Nat}{M q:Int}{v':Value}(h:Ge w wr g gb gq c M q Lv L lo t v)(ht:t<L.length)
  (o:Au w1 g gb gq c M q (Lv-1000*(t:Int)-1000) (L.getD t ByteArray.empty::L.drop (t+1)) lo) (s:Tu (lkF g gb gq c) wr w1)
  (p:AH w2 gq c (capN q) (L.drop (t+1)) lo) (l:Tu (quF gq c) w1 w2) (f:Ap w3 w.heap.size v' (L.take t++[L.getD t ByteArray.empty])) (d:Below w.heap.size w2 w3):Ge w w3 g gb gq c M q Lv L lo (t+1) v':=by
 have r:=o.que p l;have a:=h.lt;rw[RJ ht]at f;have e:Lv-1000*((t+1:Nat):Int)=Lv-1000*(t:Int)-1000:=by omega
 refine⟨?_,f,?_,h.lt⟩
 ·rw[e]
  exact r.belowB d a.1.1 a.1.2 a.2.1 a.2.2
 ·refine(OU h.tu (OU s (ME l))).trans (F:=lkF g gb gq c) (G:=fun j=>w.heap.size<=j) ⟨d.os,d.tape,d.output,d.size,fun k z A=>d.block k (by omega)⟩ fun j y u=>by omega
theorem eA(g gb gq c lo:Nat)(M q Lv:Int)(L:List ByteArray)(w:World)(h:Au w g gb gq c M q Lv L lo):
  Calls Tryz.prog 111 #[.func (.func 112) #[.pointer (some ⟨g,0,none⟩)] #[],.func (.func 113) #[.pointer (some ⟨gq,0,none⟩)] #[]] w fun e w'=>
   ∃b f,e=.returned (.slice b (EF L Lv) f)/\Ge w w' g gb gq c M q Lv L lo (EF L Lv) (.slice b (EF L Lv) f):=by
 have S:L.length<=256:=Nat.le_trans h.qu.len h.qu.most;have o:=Ab (show Ge w w g gb gq c M q Lv L lo 0 (.slice none 0 0) from⟨by simpa using h,Ap.nil _ _,Tu.refl _ _,⟨⟨h.lt.1,h.lt.2.1⟩,h.lt.2.2.1,h.lt.2.2.2⟩⟩);have aa:=h.bt.lev.1;clear h;go_enter Tryz.func111,Tryz.ntmps111;go_wp2_with fail;go_loopw [5] (fun v wr=> ∃(t:Nat) (b:Option Addr) (f:Nat),v=.slice b t f/\t<=L.length/\1000*(t:Int)<=Lv/\Hid (Ge w wr g gb gq c M q Lv L lo t (.slice b t f))) (fun v _=>L.length-Qv v)
 case atStart=>exact⟨0,none,0,rfl,Nat.zero_le _,by omega,o⟩
 case round=>
  obtain⟨t,b,f,rfl,ht,B,d⟩:=hrel;clear o;by_cases u:t<L.length
  case neg=>
   obtain rfl:t=L.length:=by omega
   have H:=Ab (Vu (L:=L) (Nat.le_refl _) B (.inl rfl));have p:=Ab (Aa d).lk;rw[List.drop_length]at p;generalize L.length=n at*
   go_wp2_with (first
    |(go_at_call 112;refine(bW _ _ _ _ _ _ _ _ _ (Aa p)).mono ?_;rintro e w1 ⟨rfl,a⟩;obtain rfl:=a.symm;clear a)
    |fail)
   go_ret;rw[Aa H];exact⟨b,f,rfl,Aa d⟩
  by_cases s:Lv-1000*(t:Int)<1000
  case pos=>
   have H:=Ab (Vu ht B (.inr s))
   go_wp2_with (first
    |(go_at_call 112;refine(gK _ _ _ _ _ _ _ _ _ _ (Aa d).lk (by rw[List.length_drop];omega) s).mono ?_;rintro e w1 ⟨rfl,a⟩;obtain rfl:=a.symm;clear a)
    |fail)
   go_ret;rw[Aa H];exact⟨b,f,rfl,Aa d⟩
  have p:=Ab (Aa d).lk;rw[nj u]at p;have X:=Ab (fun w1 w2 w3 v' h1 P h2 Q h3 b3=>(Aa d).next (w1:=w1) (w2:=w2) (w3:=w3) (v':=v') u h1 P h2 Q h3 b3);have W:=Ab (fun w1 (P:Tu (lkF g gb gq c) wr w1) w2 (Q:Tu (quF gq c) w1 w2)=>((Aa d).own.tuL (OU P (ME Q)) fun j hj=>(Aa d).no hj));have Y:=Ab (Aa d).tu.size;have K:(L.take t).length<=1048576:=by rw[List.length_take];omega
  have O:(L.take t++[L.getD t ByteArray.empty]).length=t+1:=by rw[List.length_append,List.length_take,List.length_singleton];omega
  generalize L.getD t ByteArray.empty=x at*
  go_wp2_with (first
   |(go_at_call 112;refine(dy _ _ _ _ _ _ _ _ _ _ (Aa p) (by rw[List.length_cons];omega) (by omega)).mono ?_;rintro e w1 ⟨rfl,y,A⟩;have R:=Ab y;have J:=Ab A;clear y A)
   |(go_at_call 113;refine(fl _ _ _ _ _ _ _ (Aa R).qu).mono ?_;rintro e w2 ⟨rfl,z,k⟩;have V:=Ab z;have T2:=Ab k;have G:=Ab (Aa W _ (Aa J) _ k);have I:=Ab (Nat.le_trans (Aa Y) (Nat.le_trans (Aa J).size k.size));clear z k)
   |(at_builtin;refine QI rfl _ _ rfl w.heap.size (.slice b t f) (L.take t) x rfl rfl (Aa G) (Aa I) K ?_;intro v6 w6 l r;have E:=Ab (Aa X _ _ _ _ (Aa R) (Aa J) (Aa V) (Aa T2) l r);obtain⟨b6,c6,C, -⟩:=l.texts;rw[O]at C;subst C;clear l r)
   |fail)
  go_roundw
  case rel=>exact⟨t+1,b6,c6,rfl,by omega,by omega,E⟩
  case measure=>simp[Qv];omega
theorem gL(g gb gq c lo:Nat)(M q Lv:Int)(L:List ByteArray)(w:World)(h:Au w g gb gq c M q Lv L lo):
  Calls Tryz.prog 53 #[.pointer (some ⟨g,0,none⟩)] w fun e w'=>
   ∃b a,e=.returned (.slice b (EF L Lv) a)/\Ge w w' g gb gq c M q Lv L lo (EF L Lv) (.slice b (EF L Lv) a):=by
 have l:∀(d:Fn) (first cap:Array Value) (w:World),(Instr.makeFunc d first cap).run Tryz.prog w=.ok (.func d first cap) w:=fun _ _ _ _=>rfl;have c3:=h.blk.at 3 rfl;have k:=Ab (eA g gb gq c lo M q Lv L w h);clear h;generalize EF L Lv=t at*;go_enter Tryz.func53,Tryz.ntmps53
 go_wp2_with (first
  |(go_at_call 111;refine(Aa k).mono ?_;rintro e w1 ⟨b,a,rfl,f⟩;have j:=Ab f;clear f)
  |fail)
 go_ret;exact⟨b,a,rfl,Aa j⟩
end
section
variable {x i t:Int}{Z:List Int}
def DB(x:Int):Bool:=decide (0<=x)&&decide (x<8)
def E0(x:Int):Bool:=decide (0<=x)&&decide (x<=1099511627776)
def Da(t:Int):Int:=min (max t 0) 1048576
def Dc(Z:List Int)(x:Int):Int×Int:=if DB x=true then(Z.getD (x.toNat*2) 0,Z.getD (x.toNat*2+1) 0)else(0,0)
def Gu(p:Int×Int):Bool:= !(decide (p.1=0)&&decide (p.2=0))
def DR(Z:List Int)(x i t:Int):Bool:=DB x&&E0 t&&decide ((Dc Z x).1<=i)
def Em(Z:List Int)(x i t:Int):List Int:=if DR Z x i t=true then(Z.set (x.toNat*2) i).set (x.toNat*2+1) (t+1)else Z
def IM(T:Int)(p:Int×Int)(t:Int):Bool:=Gu p&&E0 t&&(decide (0<=t-(p.2-1))&&decide (t-(p.2-1)<=T))
def Pw(T:Int)(Z:List Int)(x t:Int):Bool:=IM T (Dc Z x) t
def EK(P:Nat->Bool):Nat->List Int
 |0=>[]
 |k+1=>EK P k++(if P k=true then [(k:Int)]else [])
def GX(T:Int)(Z:List Int)(t:Int):List Int:=EK (fun n=>Pw T Z (n:Int) t) 8
theorem N7(P:Nat->Bool):∀k,(EK P k).length<=k
 |0=>Nat.le_refl _
 |k+1=>by
  have:=N7 P k;unfold EK;by_cases h:P k=true
  ·rw[if_pos h,List.length_append];simp;omega
  ·rw[if_neg h,List.append_nil];omega
theorem hU{P:Nat->Bool}{k:Nat}(h:P k=true):EK P (k+1)=EK P k++[(k:Int)]:=by rw[EK,if_pos h]
theorem lq{P:Nat->Bool}{k:Nat}(h:P k=false):EK P (k+1)=EK P k:=by rw[EK,if_neg (by rw[h];decide),List.append_nil]
theorem Sq:DB x=true↔0<=x/\x<8:=by simp[DB]
theorem Oq:E0 x=true↔0<=x/\x<=1099511627776:=by simp[E0]
theorem Kr(h:DB x=true):∃n:Nat,n<8/\x=(n:Int):=by
 have:=Sq.1 h;exact⟨x.toNat,by omega,by omega⟩
theorem V9{n:Nat}(h:n<8):DB (n:Int)=true:=Sq.2 ⟨by omega,by omega⟩
theorem Jt(Z:List Int){n:Nat}(h:n<8):Dc Z (n:Int)=(Z.getD (n*2) 0,Z.getD (n*2+1) 0):=by
 unfold Dc;rw[if_pos (V9 h),Int.toNat_natCast]
theorem LZ(Z:List Int){x:Int}(h:DB x=false):Dc Z x=(0,0):=by
 unfold Dc;rw[if_neg (by rw[h];decide)]
def Cg(Z:List Int):Prop:=Z.length=16/\∀n,n<8->0<=Z.getD (n*2) 0/\0<=Z.getD (n*2+1) 0/\Z.getD (n*2+1) 0<=1099511627777/\(Z.getD (n*2+1) 0=0->Z.getD (n*2) 0=0)
def Qr(p:Int×Int):Prop:=0<=p.1/\0<=p.2/\p.2<=1099511627777/\(p.2=0->p.1=0)
theorem Cg.mem(h:Cg Z)(x:Int):Qr (Dc Z x):=by
 by_cases c:DB x=true
 ·obtain⟨n,a,rfl⟩:=Kr c
  rw[Jt Z a];exact h.2 n a
 ·rw[LZ Z (by simpa using c)]
  exact⟨by decide,by decide,by decide,fun _=>rfl⟩
theorem Qx{i j:Nat}(a:i<Z.length):(Z.set i x).getD j 0=if i=j then x else Z.getD j 0:=by
 rw[List.getD_eq_getElem?_getD,List.getElem?_set];by_cases e:i=j
 ·subst e;simp[a]
 ·simp[e,List.getD_eq_getElem?_getD]
theorem Cg.zero:Cg (List.replicate 16 0):=by
 refine⟨rfl,fun n a=>?_⟩
 have:∀j,(List.replicate 16 (0:Int)).getD j 0=0:=fun j=>by
  rw[List.getD_eq_getElem?_getD,List.getElem?_replicate];split<;>rfl
 rw[this,this];exact⟨by decide,by decide,by decide,fun _=>rfl⟩
theorem ow(h:Z.length=16){n m:Nat}(d:n<8)(c:m<8)(i t:Int):Dc ((Z.set (n*2) i).set (n*2+1) (t+1)) (m:Int)=if n=m then(i,t+1)else Dc Z (m:Int):=by
 have f:(Z.set (n*2) i).length=16:=by rw[List.length_set];exact h
 have a:∀j,((Z.set (n*2) i).set (n*2+1) (t+1)).getD j 0=if n*2+1=j then t+1 else if n*2=j then i else Z.getD j 0:=fun j=>by
  rw[Qx (by omega),Qx (by omega)]
 rw[Jt _ c,Jt _ c,a,a];by_cases e:n=m
 ·subst e
  rw[if_neg (by omega),if_pos rfl,if_pos rfl,if_pos rfl]
 ·rw[if_neg (by omega),if_neg (by omega),if_neg (by omega),if_neg (by omega),if_neg e]
theorem SI{n:Nat}(h:DR Z (n:Int) i t=true):Em Z (n:Int) i t=(Z.set (n*2) i).set (n*2+1) (t+1):=by
 unfold Em;rw[if_pos h,Int.toNat_natCast]
theorem LW(h:DR Z x i t=false):Em Z x i t=Z:=by
 unfold Em;rw[if_neg (by rw[h];decide)]
theorem RZ(h:DR Z x i t=true):DB x=true/\E0 t=true/\(Dc Z x).1<=i:=by
 unfold DR at h;simp only[Bool.and_eq_true,decide_eq_true_eq]at h;exact⟨h.1.1,h.1.2,h.2⟩
theorem jj(h:Cg Z)(x i t y:Int):Dc (Em Z x i t) y=if DR Z x i t=true/\y=x then(i,t+1)else Dc Z y:=by
 by_cases a:DR Z x i t=true
 ·obtain⟨k,ht,l⟩:=RZ a
  obtain⟨n,f,rfl⟩:=Kr k;rw[SI a];by_cases d:DB y=true
  ·obtain⟨m,j,rfl⟩:=Kr d
   rw[ow h.1 f j];by_cases e:n=m
   ·subst e;rw[if_pos rfl,if_pos ⟨a,rfl⟩]
   ·rw[if_neg e,if_neg (fun q=>e (by omega))]
  ·have c:DB y=false:=by simpa using d
   rw[LZ _ c,LZ _ c,if_neg];rintro⟨_,rfl⟩;exact d (V9 f)
 ·rw[LW (by simpa using a),if_neg (fun q=>a q.1)]
theorem jz(Z:List Int)(x i t:Int):(Em Z x i t).length=Z.length:=by
 unfold Em;split
 ·rw[List.length_set,List.length_set]
 ·rfl
theorem Cg.of(c:Z.length=16)(h:∀n:Nat,n<8->Qr (Dc Z (n:Int))):Cg Z:=⟨c,fun n a=>by
 have:=h n a;rw[Jt Z a]at this;exact this⟩
theorem Cg.hear(h:Cg Z)(x i t:Int):Cg (Em Z x i t):=by
 refine Cg.of (by rw[jz];exact h.1) fun n f=>?_;rw[jj h];split
 ·rename_i q
  obtain⟨j,ht,d⟩:=RZ q.1;have a:=(h.mem x).1;have c:=Oq.1 ht;exact⟨by show 0<=i;omega,by show 0<=t+1;omega,by show t+1<=1099511627777;omega,fun e=>by have:t+1=0:=e;omega⟩
 ·exact h.mem _
theorem Za(t:Int):0<=Da t/\Da t<=1048576:=by unfold Da;omega
end
section
variable {T:Int}{Z:List Int}{g:Nat}{w:World}
def IT(T:Int)(Z:List Int):List Value:=.int .i64 T::cellsZ Z
theorem PL(T:Int){Z:List Int}{i:Nat}(h:i<Z.length):(IT T Z)[1+i]? =some (.int .i64 (Z.getD i 0)):=by
 unfold IT;rw[Nat.add_comm,List.getElem?_cons_succ,GA Z i h]
theorem V8(T:Int)(Z:List Int)(i:Nat)(x:Int):(IT T Z).set (1+i) (.int .i64 x)=IT T (Z.set i x):=by
 unfold IT;rw[Nat.add_comm,List.set_cons_succ,ND]
structure A3(w:World)(g:Nat)(T:Int)(Z:List Int):Prop where
 blk:BkA 166 w g (IT T Z)
 inv:Cg Z
 tm:0<=T/\T<=1048576
theorem A3.below{w':World}(h:A3 w g T Z)(a:Below w.heap.size w w'):A3 w' g T Z:=⟨h.blk.below a,h.inv,h.tm⟩
theorem A3.tu{F:Nat->Prop}{w':World}(h:A3 w g T Z)(ht:Tu F w w')(a:¬F g):A3 w' g T Z:=⟨h.blk.tu ht a,h.inv,h.tm⟩
theorem A3.t(h:A3 w g T Z):w.cell? ⟨g,0,none⟩=some (.int .i64 T):=h.blk.at 0 rfl
theorem A3.at(h:A3 w g T Z){n:Nat}(a:n<8):w.cell? ⟨g,1+n*2,none⟩=some (.int .i64 (Z.getD (n*2) 0))/\w.cell? ⟨g,1+n*2+1,none⟩=some (.int .i64 (Z.getD (n*2+1) 0)):=
 ⟨h.blk.at _ (PL T (by have:=h.inv.1;omega)),by rw[Nat.add_assoc];exact h.blk.at _ (PL T (by have:=h.inv.1;omega))⟩
theorem I4(x:Int)(w:World):Calls Tryz.prog 68 #[.int .i64 x] w fun e w'=>e=.returned (.bool (DB x))/\w'=w:=by
 unfold DB;by_cases a:0<=x
 ·have c:decide (0<=x)=true:=decide_eq_true a
  go_enter Tryz.func68,Tryz.ntmps68;go_wp2;go_ret;exact⟨BJ (by simp[a]),rfl⟩
 ·have c:decide (0<=x)=false:=decide_eq_false a
  go_enter Tryz.func68,Tryz.ntmps68;go_wp2;go_ret;exact⟨BJ (by simp),rfl⟩
theorem I5(x:Int)(w:World):Calls Tryz.prog 69 #[.int .i64 x] w fun e w'=>e=.returned (.bool (E0 x))/\w'=w:=by
 unfold E0;by_cases a:0<=x
 ·have c:decide (0<=x)=true:=decide_eq_true a
  go_enter Tryz.func69,Tryz.ntmps69;go_wp2;go_ret;exact⟨BJ (by simp[a]),rfl⟩
 ·have c:decide (0<=x)=false:=decide_eq_false a
  go_enter Tryz.func69,Tryz.ntmps69;go_wp2;go_ret;exact⟨BJ (by simp),rfl⟩
theorem XU(a b:Int)(W:World):
  (binOp .neq 163 (.agg #[.int .i64 a,.int .i64 b]) (.agg #[.int .i64 0,.int .i64 0])).run Tryz.prog W=.ok (.bool (Gu (a,b))) W:=by
 obtain⟨i,f⟩:∃i,Tryz.prog.info? 3=some i:=by
  cases h:Tryz.prog.info? 3 with
  |none=>exact absurd h (by decide+kernel)
  |some i=>exact⟨i,rfl⟩
 have e:Tryz.prog.cellsOf 3=1:=by kernel_rfl
 rw[run_neq_struct,run_equalIn_array W 9999 _ _ Tryz.underlying163 f,e];by_cases c:a=0
 ·by_cases d:b=0
  ·simp[Op.eqItems,List.range_succ,BL,go_sem,Tryz.underlying3,c,d,Gu]
  ·simp[Op.eqItems,List.range_succ,BL,go_sem,Tryz.underlying3,c,d,Gu]
 ·simp[Op.eqItems,List.range_succ,BL,go_sem,Tryz.underlying3,c,Gu]
theorem LA(a b:Int)(w:World):Calls Tryz.prog 148 #[.agg #[.int .i64 a,.int .i64 b]] w fun e w'=>e=.returned (.bool (Gu (a,b)))/\Below w.heap.size w w':=by
 have d:=XU a b;have c:Tryz.prog.eqGuardType Tryz.prog.depth 163=false:=by kernel_rfl
 go_enter Tryz.func148,Tryz.ntmps148;go_wp2;go_ret;exact⟨rfl,(Below.refl _ _).alloc (Nat.le_refl _) _⟩
theorem Vg(a b:Int)(w:World):Calls Tryz.prog 70 #[.agg #[.int .i64 a,.int .i64 b]] w fun e w'=>e=.returned (.int .i64 a)/\Below w.heap.size w w':=by
 go_enter Tryz.func70,Tryz.ntmps70;go_wp2;go_ret;exact⟨rfl,(Below.refl _ _).alloc (Nat.le_refl _) _⟩
theorem jp(a b:Int)(c:0<=b/\b<=1099511627777)(w:World):Calls Tryz.prog 149 #[.agg #[.int .i64 a,.int .i64 b]] w fun e w'=>e=.returned (.int .i64 (b-1))/\Below w.heap.size w w':=by
 have d:IntKind.i64.wrap (b-1)=b-1:=by rw[IntKind.wrap_i64];omega
 go_enter Tryz.func149,Tryz.ntmps149;go_wp2;go_ret;exact⟨rfl,(Below.refl _ _).alloc (Nat.le_refl _) _⟩
theorem js(i t:Int)(ht:0<=t/\t<=1099511627776)(w:World):Calls Tryz.prog 71 #[.int .i64 i,.int .i64 t] w fun e w'=>e=.returned (.agg #[.int .i64 i,.int .i64 (t+1)])/\Below w.heap.size w w':=by
 have a:IntKind.i64.wrap (t+1)=t+1:=by rw[IntKind.wrap_i64];omega
 go_enter Tryz.func71,Tryz.ntmps71;go_wp2;exact bodyPost_ret (v:=.agg #[.int .i64 i,.int .i64 (t+1)]) (by simp[results,Tryz.results71,go_sem]) rfl ⟨rfl,(Below.refl _ _).alloc (Nat.le_refl _) _⟩
theorem gV(g:Nat)(T:Int)(Z:List Int)(x:Int)(w:World)(h:A3 w g T Z):
  Calls Tryz.prog 147 #[.pointer (some ⟨g,0,none⟩),.int .i64 x] w fun e w'=>e=.returned (.agg #[.int .i64 (Dc Z x).1,.int .i64 (Dc Z x).2])/\Below w.heap.size w w':=by
 by_cases j:DB x=true
 ·obtain⟨n,k,rfl⟩:=Kr j
  rw[Jt Z k];have f:=AB w (.cells #[.int .i64 0,.int .i64 0] 163);obtain⟨c0,c1⟩:=(h.below f).at k;have l:(n:Int)<8:=by omega
  have o:=Ab f;clear h f;generalize Z.getD (n*2) 0=a at*;generalize Z.getD (n*2+1) 0=b at*;go_enter Tryz.func147,Tryz.ntmps147;go_wp2_with (go_at_call 68;refine(I4 _ _).mono ?_;rintro e w1 ⟨rfl,c⟩;obtain rfl:=c.symm;clear c;rw[j]);exact bodyPost_ret (v:=.agg #[.int .i64 a,.int .i64 b]) (by simp[results,Tryz.results147,go_sem]) rfl ⟨rfl,AB _ _⟩
 ·have d:DB x=false:=by simpa using j
  rw[LZ Z d];clear h;go_enter Tryz.func147,Tryz.ntmps147;go_wp2_with (go_at_call 68;refine(I4 _ _).mono ?_;rintro e w1 ⟨rfl,c⟩;obtain rfl:=c.symm;clear c;rw[d]);exact bodyPost_ret (v:=.agg #[.int .i64 0,.int .i64 0]) (by simp[results,Tryz.results147,go_sem]) rfl ⟨rfl,AB _ _⟩
theorem ji(t:Int)(w:World):
  Calls Tryz.prog 59 #[.int .i64 t] w fun e w'=>e=.returned (.pointer (some ⟨w.heap.size,0,none⟩))/\A3 w' w.heap.size (Da t) (List.replicate 16 0)/\Below w.heap.size w w':=by
 have d:=Ko t 0;have a:=Kp (max t 0) 1048576;have c:=Za t;rw[show min (max t 0) 1048576=Da t from rfl]at a;generalize Da t=T at*;generalize max t 0=f at*;go_enter Tryz.func59,Tryz.ntmps59;go_wp2;go_ret;exact⟨rfl,⟨AV 166 w (IT T (List.replicate 16 0)),Cg.zero,c⟩,AB _ _⟩
structure PD where
 o:Int
 l:Int
 k:Int
 z:Int
 h:Int
 xs:List Nat
 s:ByteArray
def PD.dflt:PD:=⟨0,0,0,0,0,[],⟨#[]⟩⟩
def PKV.pd(p:PKV):PD:=⟨p.o,p.l,p.k,p.z,p.h,p.r.xs,p.r.s⟩
def BN(p:PD):Bool:=decide (((1<=p.k/\p.k<=128)/\1<=p.z/\p.z<=64)/\(0<=p.o/\p.o<=4294967295)/\(0<=p.l/\p.l<=p.k*p.z)/\0<=p.h/\p.h<=15)&&(AR p.k p.xs&&decide (0<cnt p.xs)&&decide ((p.s.size:Int)=p.z))
theorem Fl{p:PD}:BN p=true↔BS p.o p.l p.k p.z p.h p.xs p.s.size:=by
 unfold BN BS;rw[Bool.and_eq_true,Bool.and_eq_true,Bool.and_eq_true,GD,decide_eq_true_eq,decide_eq_true_eq,decide_eq_true_eq];unfold Jv Gm Jx;rw[and_assoc (a:=BU p.k p.xs)]
theorem PR(p:PD):Ev (if BN p=true then 0 else 1) (BS p.o p.l p.k p.z p.h p.xs p.s.size):=by
 by_cases h:BN p=true
 ·rw[if_pos h];exact .inl ⟨Fl.1 h,rfl⟩
 ·rw[if_neg h];exact .inr ⟨fun a=>h (Fl.2 a),rfl⟩
theorem IC{p:PD}(h:BN p=true):BU p.k p.xs/\0<cnt p.xs/\(p.s.size:Int)=p.z/\1<=p.k/\p.k<=128/\p.z<=64:=by
 obtain⟨⟨⟨a,c⟩,_⟩,d,e,f⟩:=Fl.1 h;exact⟨d,e,f,a.1,a.2,c.2⟩
theorem Jo{p:PD}(h:BN p=true):p.xs.length<=2:=by
 obtain⟨⟨a,c,_⟩,_⟩:=IC h;have:=DL p.k;omega
theorem XZ{p:PD}(h:BN p=true):(cnt p.xs:Int)<=p.k:=by
 obtain⟨⟨_,_,a⟩,_,_,e,_⟩:=IC h;have c:=(OM p.xs p.k.toNat).2 a;have d:=O7 p.xs p.k.toNat;omega
def vecsD(L:List PD):List (List Nat):=L.map fun p=>p.xs
def Bp(q p:PD):Bool:=decide (q.o=p.o/\q.l=p.l/\q.k=p.k/\q.z=p.z)
theorem TN{p q:PD}(h:Bp p q=true):Bp q p=true:=by
 unfold Bp at*;rw[decide_eq_true_eq]at*;exact⟨h.1.symm,h.2.1.symm,h.2.2.1.symm,h.2.2.2.symm⟩
theorem Sn{p q r:PD}(h:Bp p q=true)(k:Bp q r=true):Bp p r=true:=by
 unfold Bp at*;rw[decide_eq_true_eq]at*;exact⟨h.1.trans k.1,h.2.1.trans k.2.1,h.2.2.1.trans k.2.2.1,h.2.2.2.trans k.2.2.2⟩
theorem OA(p:PD):Bp p p=true:=by unfold Bp;rw[decide_eq_true_eq];exact⟨rfl,rfl,rfl,rfl⟩
theorem Pz{p:PKV}(h:BN p.pd=false):Ev 1 (BS p.o p.l p.k p.z p.h p.r.xs p.r.s.size):=by
 have:=PR p.pd;rw[h]at this;exact this
theorem Md{p:PKV}(h:BN p.pd=true):Ev 0 (BS p.o p.l p.k p.z p.h p.r.xs p.r.s.size):=by
 have:=PR p.pd;rw[h]at this;exact this
theorem KU{ps:List PKV}{i:Nat}(a:i<ps.length):(ps.map PKV.pd).getD i .dflt=(ps.getD i .dflt).pd:=by
 rw[List.getD_eq_getElem?_getD,List.getElem?_map,List.getElem?_eq_getElem a,List.getD_eq_getElem?_getD,List.getElem?_eq_getElem a];rfl
end
section
variable {D:DataW Unit}{L:List Nat}{x b n g m N:Nat}{w w':World}
def Dv(p:PD):Nat:=if BN p=true then In (BF p.o p.l p.k p.z 0 p.xs (tx p.s))else 0
theorem Yd{p:PD}(h:BN p=true):Dv p=In (BF p.o p.l p.k p.z 0 p.xs (tx p.s)):=if_pos h
theorem ZS{p:PD}(h:BN p=false):Dv p=0:=if_neg (by rw[h];decide)
theorem PW(p:PD):Dv p<4294967296:=by
 unfold Dv;split
 ·exact Wl (J0 _ _ _ _ _ _ _ (Bk _))
 ·decide
def DE(L:List Nat)(x:Nat):Bool:=L.contains x
theorem Uc:DE L x=true↔x∈L:=by simp[DE]
theorem Mj:DE L x=false↔x∉L:=by rw[<-Uc];simp
def C6(L:List Nat)(p:PD):Bool:=BN p&& !DE L (Dv p)
def Gs(m:Nat)(L:List Nat)(x:Nat):List Nat:=if m=0 then L else if L.length=m then L.tail++[x]else L++[x]
def Fr(m:Nat)(L:List Nat)(p:PD):List Nat:=if C6 L p=true then Gs m L (Dv p)else L
theorem KS{a:Nat}(h:(.int .u32 (a:Int):Lit)=.int .u32 (b:Int)):a=b:=by
 simp only[Lit.int.injEq,true_and]at h;omega
theorem Pn(a:Nat):WideAt.IsKeyLit (.int .u32 (a:Int)):=trivial
theorem ZY(a b:Nat):(Lit.int .u32 (a:Int)).sameKey (.int .u32 (b:Int))=decide (a=b):=by
 by_cases e:a=b
 ·subst e;rw[WideAt.sameKey_self (Pn a)];simp
 ·rw[sameKey_ne (fun h=>e (KS h))];simp[e]
structure Ez(D:DataW Unit)(nx:Nat)(es:List (Nat×Nat)):Prop where
 has:∀x:Nat,Maps.has D (.int .u32 (x:Int))=DE (es.map Prod.fst) x
 at':∀p∈es,∀z,D.atKey (.int .u32 (p.1:Int)) z=.lit (.int .i64 (p.2:Int))
 size:Maps.size D=es.length
 rise:es.Pairwise fun p q=>p.2<q.2
 two:es.Pairwise fun p q=>p.1≠q.1
 low:∀p∈es,p.2<nx
theorem Ez.empty:Ez (.map []) 0 []:=
 ⟨fun x=>rfl,fun p h=>(by cases h),rfl,List.Pairwise.nil,List.Pairwise.nil,fun p h=>(by cases h)⟩
theorem Ez.put{nx:Nat}{c:List (Nat×Nat)}(h:Ez D nx c)(d:Tidy D){x:Nat}(j:x∉c.map Prod.fst):
  Ez (D.put (.int .u32 (x:Int)) (.lit (.int .i64 (nx:Int)))) (nx+1) (c++[(x,nx)]):=by
 have k:Maps.has D (.int .u32 (x:Int))=false:=by rw[h.has,Mj];exact j
 refine⟨fun y=>?_,fun p hp z=>?_,?_,?_,?_,fun p hp=>?_⟩
 ·by_cases e:y=x
  ·subst e
   rw[has_put_same d.isMap (Pn y)];simp[DE]
  ·rw[has_put_other (fun f=>e (KS f)),h.has]
   simp[DE,e]
 ·rw[List.mem_append,List.mem_singleton]at hp
  rcases hp with hp|rfl
  ·have:p.1≠x:=fun e=>j (List.mem_map.2 ⟨p,hp,e⟩)
   rw[atKey_put_other (fun f=>this (KS f))];exact h.at' p hp z
  ·exact atKey_put_same d.isMap (Pn x) _ z
 ·rw[size_put d,k,h.size];simp
 ·rw[List.pairwise_append]
  exact⟨h.rise,List.pairwise_singleton _ _,fun p hp q a=>by rw[List.mem_singleton]at a;subst a;exact h.low p hp⟩
 ·rw[List.pairwise_append]
  exact⟨h.two,List.pairwise_singleton _ _,fun p hp q a=>by rw[List.mem_singleton]at a;subst a;exact fun e=>j (List.mem_map.2 ⟨p,hp,e⟩)⟩
 ·rw[List.mem_append,List.mem_singleton]at hp
  rcases hp with hp|rfl
  ·have:=h.low p hp;omega
  ·show nx<nx+1;omega
theorem Ez.del{nx k s:Nat}{a:List (Nat×Nat)}(h:Ez D nx ((k,s)::a))(f:Tidy D):Ez (D.del (.int .u32 (k:Int))) nx a:=by
 have o:=List.pairwise_cons.1 h.rise;have ht:=List.pairwise_cons.1 h.two
 have d:k∉a.map Prod.fst:=fun l=>by
  obtain⟨p,hp,e⟩:=List.mem_map.1 l;exact ht.1 p hp e.symm
 have j:Maps.has D (.int .u32 (k:Int))=true:=by rw[h.has];simp[DE]
 refine⟨fun y=>?_,fun p hp z=>?_,?_,o.2,ht.2,fun p hp=>h.low p (List.mem_cons_of_mem _ hp)⟩
 ·by_cases e:y=k
  ·subst e
   rw[has_del_same];exact(Mj.2 d).symm
  ·rw[has_del_other (fun c=>e (KS c)),h.has]
   simp[DE,e]
 ·have:p.1≠k:=fun e=>d (List.mem_map.2 ⟨p,hp,e⟩)
  rw[atKey_del_other (fun c=>this (KS c))];exact h.at' p (List.mem_cons_of_mem _ hp) z
 ·have:=size_del (k:=.int .u32 (k:Int)) f
  rw[j,h.size]at this;simp only[if_true,List.length_cons]at this;omega
theorem JB:Keyed Tryz.prog 95:=int_keyed Tryz.underlying95
theorem ZC(w:World):(zeroValue 3).run Tryz.prog w=.ok (.int .i64 0) w:=by kernel_rfl
theorem MP(h:x<4294967296):keyOf Tryz.prog 95 (.int .u32 (x:Int))=some (.int .u32 (x:Int)):=keyOf_int_mk Tryz.underlying95 (WalkArith.wf_u32 (by omega))
def AY(w:World)(b n:Nat)(D:DataW Unit):Prop:=w.ownsMap Tryz.prog 95 (plainElem Tryz.prog 3) b n D
theorem AY.lt(h:AY w b n D):b<w.heap.size:=World.ownsMap.lt h
theorem AY.tu{F:Nat->Prop}(h:AY w b n D)(ht:Tu F w w')(d:¬F b):AY w' b n D:=by
 have f:=h.lt;obtain⟨c,a,e,r⟩:=h;exact⟨c,a,(ht.block b f d).trans e,r⟩
theorem AY.exact(h:AY w b n D):AY w b (Maps.size D) D:=by
 obtain⟨c,a,d,F,e,rfl⟩:=h;exact⟨c,a,d,F,by simp[Maps.size,length_sorted],rfl⟩
theorem AY.tidy(h:AY w b n D):Tidy D:=World.ownsMap.tidy h JB
theorem PI(h:w.mapTurned w' b):Tu (fun j=>j=b) w w':=Tu.of_gb h.grown fun j _ e=>(Option.some.inj e).symm
theorem AY.nocells(h:AY w b n D)(c:Array Value)(t:TypeId)(m:Nat×Nat):w.heap[b]? ≠some (.cells c t m):=by
 obtain⟨f,a,d,_⟩:=h;rw[d];intro e;cases e
structure AM(w:World)(g b m N:Nat)(L:List Nat):Prop where
 it:∃nx es D,nx<=N/\BkA 226 w g [.int .i64 (m:Int),.map (some b),.int .i64 (nx:Int)]/\AY w b L.length D/\Ez D nx es/\L=es.map Prod.fst
 len:L.length<=m
 most:m<=256
def E8(g b:Nat)(j:Nat):Prop:=j=g\/j=b
theorem AM.lt(h:AM w g b m N L):g<w.heap.size/\b<w.heap.size:=by
 obtain⟨nx,d,D,_,a,c,_⟩:=h.it;exact⟨a.lt,c.lt⟩
theorem AM.tu{F:Nat->Prop}(h:AM w g b m N L)(ht:Tu F w w')(d:¬F g)(c:¬F b):AM w' g b m N L:=by
 obtain⟨nx,a,D,f,e,j,r⟩:=h.it;exact⟨⟨nx,a,D,f,e.tu ht d,j.tu ht c,r⟩,h.len,h.most⟩
theorem AM.below(h:AM w g b m N L)(a:Below w.heap.size w w'):AM w' g b m N L:=h.tu (F:=fun _=>False) (Tu.of_below a) id id
theorem AM.mono{a:Nat}(h:AM w g b m N L)(d:N<=a):AM w g b m a L:=by
 obtain⟨nx,c,D,e,r⟩:=h.it;exact⟨⟨nx,c,D,Nat.le_trans e d,r⟩,h.len,h.most⟩
theorem AM.ne(h:AM w g b m N L):g≠b:=fun e=>by
 obtain⟨nx,d,D,_,a,c,_⟩:=h.it;exact c.nocells _ _ _ (e▸a)
theorem AM.out{j:Nat}{a:Array Value}{t:TypeId}{f:Nat×Nat}(h:AM w g b m N L)(c:w.heap[j]? =some (.cells a t f))(ht:t≠226):¬E8 g b j:=by
 obtain⟨nx,l,D,_,d,k,_⟩:=h.it;rintro(e|e)
 ·subst e
  exact d.ne c (fun e=>ht e.symm) rfl
 ·subst e
  exact k.nocells _ _ _ c
end
end Go.Proofs.YtfpfcnfmigaphaaGreatDoor
