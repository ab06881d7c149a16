/- Laws for the proof. -/
import Derived.Test.YtfpmnekaockodaaGreatDoorU18
import Derived.ChangeKeysEq
import Derived.Deep.CutRange
import Derived.Maps.OwnOps
set_option linter.all false
open Go.Proofs.Tryz
open List renaming getD_eq_getElem?_getD->U,getElem?_eq_getElem->δ,mem_singleton->ζ,replicate->ι,pairwise_singleton->μ,length_set->ξ,range_succ->ο,pairwise_append->ρ,mem_cons_of_mem->ς,length_append->σ
open Go.Proofs.Tryz renaming prog->α
open Go.IntKind renaming i64->β,u32->ν,wrap_i64->τ
open Go renaming World->γ,Calls->π
open Go.Ending renaming returned->ε
open Nat renaming le_refl->η,le_trans->κ
open Bool renaming and_eq_true->θ
namespace Go.Proofs.YtfpmnekaockodaaGreatDoor
open Go.RowKit Go.Conc Go.Sort Go.Maps
set_option maxRecDepth 4000
set_option maxHeartbeats 8000000
section
variable {Lv:Int}{L:List ByteArray}{t:Nat}{v:Value}{w:γ}
def DP(L:List ByteArray)(Lv:Int):Nat:=min L.length (Lv/1000).toNat
def WA(L:List ByteArray)(Lv:Int):DP L Lv<=L.length:=Nat.min_le_left _ _
def Wz(a:t<=L.length)(c:1000*(t:Int)<=Lv)(d:t=L.length\/Lv-1000*(t:Int)<1000):DP L Lv=t:=by unfold DP;omega
def RA:Value->Nat
 | .slice _ n _=>n
 |_=>0
structure GH(w wr:γ)(g gb gq c:Nat)(M q Lv:Int)(L:List ByteArray)(lo t:Nat)(v:Value):Prop where
 lk:Au wr g gb gq c M q (Lv-1000*(t:Int)) (L.drop t) lo
 own:Ar wr w.heap.size v (L.take t)
 tu:Tu (lkF g gb gq c) w wr
 lt:(g<w.heap.size/\gb<w.heap.size)/\gq<w.heap.size/\c<w.heap.size
def Ar.tuL{F:Nat->Prop}{w':γ}{B:Nat}{ss:List ByteArray}(h:Ar w B v ss)(ht:Tu F w w')(k:∀j,B<=j->¬F j):Ar w' B v ss:=by
 refine⟨h.1,?_⟩;rcases h.2 with e|⟨g,cap,c,f,d,a,r⟩
 ·exact .inl e
 ·exact .inr ⟨g,cap,c,f,d,(ht.block g (Array.getElem?_eq_some_iff.1 a).1 (k g d)).trans a,r⟩
def GH.no{wr:γ}{g gb gq c lo:Nat}{M q:Int}(h:GH w wr g gb gq c M q Lv L lo t v){j:Nat}(a:w.heap.size<=j):¬lkF g gb gq c j:=fun e=>by
 have:=h.lt;rcases e with e|e|e|e<;>omega
def SU(h:t<L.length):L.take t++[L.getD t ByteArray.empty]=L.take (t+1):=by
 rw[U,δ h,Option.getD_some,List.take_append_getElem]
def oZ(h:t<L.length):L.drop t=L.getD t ByteArray.empty::L.drop (t+1):=by
 rw[List.drop_eq_getElem_cons h,U,δ h];rfl
def GH.next{wr w1 w2 w3:γ}{g gb gq c lo:Nat}{M q:Int}{v':Value}(h:GH w wr g gb gq c M q Lv L lo t v)(ht:t<L.length)
  (o:Au w1 g gb gq c M q (Lv-1000*(t:Int)-1000) (L.getD t ByteArray.empty::L.drop (t+1)) lo) (s:Tu (lkF g gb gq c) wr w1)
  (p:AO w2 gq c (capN q) (L.drop (t+1)) lo) (l:Tu (quF gq c) w1 w2) (f:Ar w3 w.heap.size v' (L.take t++[L.getD t ByteArray.empty])) (d:Below w.heap.size w2 w3):GH w w3 g gb gq c M q Lv L lo (t+1) v':=by
 have r:=o.que p l;have a:=h.lt;rw[SU ht]at f;have e:Lv-1000*((t+1:Nat):Int)=Lv-1000*(t:Int)-1000:=by omega
 refine⟨?_,f,?_,h.lt⟩
 ·rw[e]
  exact r.belowB d a.1.1 a.1.2 a.2.1 a.2.2
 ·refine(PA h.tu (PA s (Ni l))).trans (F:=lkF g gb gq c) (G:=fun j=>w.heap.size<=j) ⟨d.os,d.tape,d.output,d.size,fun k z A=>d.block k (by omega)⟩ fun j y u=>by omega
def fA(g gb gq c lo:Nat)(M q Lv:Int)(L:List ByteArray)(w:γ)(h:Au w g gb gq c M q Lv L lo):
  π α 106 #[.func (.func 107) #[.pointer (some ⟨g,0,none⟩)] #[],.func (.func 108) #[.pointer (some ⟨gq,0,none⟩)] #[]] w fun e w'=>
   ∃b f,e=ε (.slice b (DP L Lv) f)/\GH w w' g gb gq c M q Lv L lo (DP L Lv) (.slice b (DP L Lv) f):=by
 have V:L.length<=256:=κ h.qu.len h.qu.most;have o:=Ab (show GH w w g gb gq c M q Lv L lo 0 (.slice none 0 0) from⟨by simpa using h,Ar.nil _ _,Tu.refl _ _,⟨⟨h.lt.1,h.lt.2.1⟩,h.lt.2.2.1,h.lt.2.2.2⟩⟩);have aa:=h.bt.lev.1;clear h;go_enter func106,ntmps106;go_wp2_with fail;go_loopw [5] (fun v wr=> ∃(t:Nat) (b:Option Addr) (f:Nat),v=.slice b t f/\t<=L.length/\1000*(t:Int)<=Lv/\Hid (GH w wr g gb gq c M q Lv L lo t (.slice b t f))) (fun v _=>L.length-RA v)
 case atStart=>exact⟨0,none,0,rfl,Nat.zero_le _,by omega,o⟩
 case round=>
  obtain⟨t,b,f,rfl,ht,B,d⟩:=hrel;clear o;by_cases u:t<L.length
  case neg=>
   obtain rfl:t=L.length:=by omega
   have I:=Ab (Wz (L:=L) (η _) B (.inl rfl));have p:=Ab (Aa d).lk;rw[List.drop_length]at p;generalize L.length=n at*
   go_wp2_with (first
    |(go_at_call 107;refine(eK _ _ _ _ _ _ _ _ _ (Aa p)).mono ?_;rintro e w1 ⟨rfl,a⟩;obtain rfl:=a.symm;clear a)
    |fail)
   go_ret;rw[Aa I];exact⟨b,f,rfl,Aa d⟩
  by_cases s:Lv-1000*(t:Int)<1000
  case pos=>
   have I:=Ab (Wz ht B (.inr s))
   go_wp2_with (first
    |(go_at_call 107;refine(jN _ _ _ _ _ _ _ _ _ _ (Aa d).lk (by rw[List.length_drop];omega) s).mono ?_;rintro e w1 ⟨rfl,a⟩;obtain rfl:=a.symm;clear a)
    |fail)
   go_ret;rw[Aa I];exact⟨b,f,rfl,Aa d⟩
  have p:=Ab (Aa d).lk;rw[oZ u]at p;have Y:=Ab (fun w1 w2 w3 v' h1 Q h2 R h3 b3=>(Aa d).next (w1:=w1) (w2:=w2) (w3:=w3) (v':=v') u h1 Q h2 R h3 b3);have X:=Ab (fun w1 (Q:Tu (lkF g gb gq c) wr w1) w2 (R:Tu (quF gq c) w1 w2)=>((Aa d).own.tuL (PA Q (Ni R)) fun j hj=>(Aa d).no hj));have HZ:=Ab (Aa d).tu.size;have O:(L.take t).length<=1048576:=by rw[List.length_take];omega
  have P:(L.take t++[L.getD t ByteArray.empty]).length=t+1:=by rw[σ,List.length_take,List.length_singleton];omega
  generalize L.getD t ByteArray.empty=x at*
  go_wp2_with (first
   |(go_at_call 107;refine(fj _ _ _ _ _ _ _ _ _ _ (Aa p) (by rw[List.length_cons];omega) (by omega)).mono ?_;rintro e w1 ⟨rfl,y,A⟩;have S:=Ab y;have K:=Ab A;clear y A)
   |(go_at_call 108;refine(jA _ _ _ _ _ _ _ (Aa S).qu).mono ?_;rintro e w2 ⟨rfl,z,k⟩;have W:=Ab z;have T2:=Ab k;have H:=Ab (Aa X _ (Aa K) _ k);have J:=Ab (κ (Aa HZ) (κ (Aa K).size k.size));clear z k)
   |(at_builtin;refine RM rfl _ _ rfl w.heap.size (.slice b t f) (L.take t) x rfl rfl (Aa H) (Aa J) O ?_;intro v6 w6 l r;have E:=Ab (Aa Y _ _ _ _ (Aa S) (Aa K) (Aa W) (Aa T2) l r);obtain⟨b6,c6,C, -⟩:=l.texts;rw[P]at C;subst C;clear l r)
   |fail)
  go_roundw
  case rel=>exact⟨t+1,b6,c6,rfl,by omega,by omega,E⟩
  case measure=>simp[RA];omega
def jO(g gb gq c lo:Nat)(M q Lv:Int)(L:List ByteArray)(w:γ)(h:Au w g gb gq c M q Lv L lo):
  π α 77 #[.pointer (some ⟨g,0,none⟩)] w fun e w'=>
   ∃b a,e=ε (.slice b (DP L Lv) a)/\GH w w' g gb gq c M q Lv L lo (DP L Lv) (.slice b (DP L Lv) a):=by
 have l:∀(d:Fn) (first cap:Array Value) (w:γ),(Instr.makeFunc d first cap).run α w=.ok (.func d first cap) w:=fun _ _ _ _=>rfl;have c3:=h.blk.at 3 rfl;have k:=Ab (fA g gb gq c lo M q Lv L w h);clear h;generalize DP L Lv=t at*;go_enter func77,ntmps77
 go_wp2_with (first
  |(go_at_call 106;refine(Aa k).mono ?_;rintro e w1 ⟨b,a,rfl,f⟩;have j:=Ab f;clear f)
  |fail)
 go_ret;exact⟨b,a,rfl,Aa j⟩
end
section
variable {x i t:Int}{Z:List Int}
def Dt(x:Int):Bool:=decide (0<=x)&&decide (x<8)
def E0(x:Int):Bool:=decide (0<=x)&&decide (x<=1099511627776)
def CF(t:Int):Int:=min (max t 0) 1048576
def CG(Z:List Int)(x:Int):Int×Int:=if Dt x=true then(Z.getD (x.toNat*2) 0,Z.getD (x.toNat*2+1) 0)else(0,0)
def G8(p:Int×Int):Bool:= !(decide (p.1=0)&&decide (p.2=0))
def DM(Z:List Int)(x i t:Int):Bool:=Dt x&&E0 t&&decide ((CG Z x).1<=i)
def EC(Z:List Int)(x i t:Int):List Int:=if DM Z x i t=true then(Z.set (x.toNat*2) i).set (x.toNat*2+1) (t+1)else Z
def Jg(T:Int)(p:Int×Int)(t:Int):Bool:=G8 p&&E0 t&&(decide (0<=t-(p.2-1))&&decide (t-(p.2-1)<=T))
def M5(T:Int)(Z:List Int)(x t:Int):Bool:=Jg T (CG Z x) t
def DZ(P:Nat->Bool):Nat->List Int
 |0=>[]
 |k+1=>DZ P k++(if P k=true then [(k:Int)]else [])
def FV(T:Int)(Z:List Int)(t:Int):List Int:=DZ (fun n=>M5 T Z (n:Int) t) 8
def ON(P:Nat->Bool):∀k,(DZ P k).length<=k
 |0=>η _
 |k+1=>by
  have:=ON P k;unfold DZ;by_cases h:P k=true
  ·rw[if_pos h,σ];simp;omega
  ·rw[if_neg h,List.append_nil];omega
def jp{P:Nat->Bool}{k:Nat}(h:P k=true):DZ P (k+1)=DZ P k++[(k:Int)]:=by rw[DZ,if_pos h]
def pQ{P:Nat->Bool}{k:Nat}(h:P k=false):DZ P (k+1)=DZ P k:=by rw[DZ,if_neg (by rw[h];decide),List.append_nil]
def Ty:Dt x=true↔0<=x/\x<8:=by simp[Dt]
def O4:E0 x=true↔0<=x/\x<=1099511627776:=by simp[E0]
def K1(h:Dt x=true):∃n:Nat,n<8/\x=(n:Int):=by
 have:=Ty.1 h;exact⟨x.toNat,by omega,by omega⟩
def Xf{n:Nat}(h:n<8):Dt (n:Int)=true:=Ty.2 ⟨by omega,by omega⟩
def JX(Z:List Int){n:Nat}(h:n<8):CG Z (n:Int)=(Z.getD (n*2) 0,Z.getD (n*2+1) 0):=by
 unfold CG;rw[if_pos (Xf h),Int.toNat_natCast]
def ME(Z:List Int){x:Int}(h:Dt x=false):CG Z x=(0,0):=by
 unfold CG;rw[if_neg (by rw[h];decide)]
def Cc(Z:List Int):Prop:=Z.length=16/\∀n,n<8->0<=Z.getD (n*2) 0/\0<=Z.getD (n*2+1) 0/\Z.getD (n*2+1) 0<=1099511627777/\(Z.getD (n*2+1) 0=0->Z.getD (n*2) 0=0)
def Rx(p:Int×Int):Prop:=0<=p.1/\0<=p.2/\p.2<=1099511627777/\(p.2=0->p.1=0)
def Cc.mem(h:Cc Z)(x:Int):Rx (CG Z x):=by
 by_cases c:Dt x=true
 ·obtain⟨n,a,rfl⟩:=K1 c
  rw[JX Z a];exact h.2 n a
 ·rw[ME Z (by simpa using c)]
  exact⟨by decide,by decide,by decide,fun _=>rfl⟩
def RB{i j:Nat}(a:i<Z.length):(Z.set i x).getD j 0=if i=j then x else Z.getD j 0:=by
 rw[U,List.getElem?_set];by_cases e:i=j
 ·subst e;simp[a]
 ·simp[e,U]
def Cc.zero:Cc (ι 16 0):=by
 refine⟨rfl,fun n a=>?_⟩
 have:∀j,(ι 16 (0:Int)).getD j 0=0:=fun j=>by
  rw[U,List.getElem?_replicate];split<;>rfl
 rw[this,this];exact⟨by decide,by decide,by decide,fun _=>rfl⟩
def pf(h:Z.length=16){n m:Nat}(d:n<8)(c:m<8)(i t:Int):CG ((Z.set (n*2) i).set (n*2+1) (t+1)) (m:Int)=if n=m then(i,t+1)else CG Z (m:Int):=by
 have f:(Z.set (n*2) i).length=16:=by rw[ξ];exact h
 have a:∀j,((Z.set (n*2) i).set (n*2+1) (t+1)).getD j 0=if n*2+1=j then t+1 else if n*2=j then i else Z.getD j 0:=fun j=>by
  rw[RB (by omega),RB (by omega)]
 rw[JX _ c,JX _ c,a,a];by_cases e:n=m
 ·subst e
  rw[if_neg (by omega),if_pos rfl,if_pos rfl,if_pos rfl]
 ·rw[if_neg (by omega),if_neg (by omega),if_neg (by omega),if_neg (by omega),if_neg e]
def TS{n:Nat}(h:DM Z (n:Int) i t=true):EC Z (n:Int) i t=(Z.set (n*2) i).set (n*2+1) (t+1):=by
 unfold EC;rw[if_pos h,Int.toNat_natCast]
def MB(h:DM Z x i t=false):EC Z x i t=Z:=by
 unfold EC;rw[if_neg (by rw[h];decide)]
def Tb(h:DM Z x i t=true):Dt x=true/\E0 t=true/\(CG Z x).1<=i:=by
 unfold DM at h;simp only[θ,decide_eq_true_eq]at h;exact⟨h.1.1,h.1.2,h.2⟩
def lQ(h:Cc Z)(x i t y:Int):CG (EC Z x i t) y=if DM Z x i t=true/\y=x then(i,t+1)else CG Z y:=by
 by_cases a:DM Z x i t=true
 ·obtain⟨k,ht,l⟩:=Tb a
  obtain⟨n,f,rfl⟩:=K1 k;rw[TS a];by_cases d:Dt y=true
  ·obtain⟨m,j,rfl⟩:=K1 d
   rw[pf h.1 f j];by_cases e:n=m
   ·subst e;rw[if_pos rfl,if_pos ⟨a,rfl⟩]
   ·rw[if_neg e,if_neg (fun q=>e (by omega))]
  ·have c:Dt y=false:=by simpa using d
   rw[ME _ c,ME _ c,if_neg];rintro⟨_,rfl⟩;exact d (Xf f)
 ·rw[MB (by simpa using a),if_neg (fun q=>a q.1)]
def mQ(Z:List Int)(x i t:Int):(EC Z x i t).length=Z.length:=by
 unfold EC;split
 ·rw[ξ,ξ]
 ·rfl
def Cc.of(c:Z.length=16)(h:∀n:Nat,n<8->Rx (CG Z (n:Int))):Cc Z:=⟨c,fun n a=>by
 have:=h n a;rw[JX Z a]at this;exact this⟩
def Cc.hear(h:Cc Z)(x i t:Int):Cc (EC Z x i t):=by
 refine Cc.of (by rw[mQ];exact h.1) fun n f=>?_;rw[lQ h];split
 ·rename_i q
  obtain⟨j,ht,d⟩:=Tb q.1;have a:=(h.mem x).1;have c:=O4.1 ht;exact⟨by show 0<=i;omega,by show 0<=t+1;omega,by show t+1<=1099511627777;omega,fun e=>by have:t+1=0:=e;omega⟩
 ·exact h.mem _
def Za(t:Int):0<=CF t/\CF t<=1048576:=by unfold CF;omega
end
section
variable {T:Int}{Z:List Int}{g:Nat}{w:γ}
def Jl(T:Int)(Z:List Int):List Value:=.int β T::cellsZ Z
def Q2(T:Int){Z:List Int}{i:Nat}(h:i<Z.length):(Jl T Z)[1+i]? =some (.int β (Z.getD i 0)):=by
 unfold Jl;rw[Nat.add_comm,List.getElem?_cons_succ,Hp Z i h]
def WX(T:Int)(Z:List Int)(i:Nat)(x:Int):(Jl T Z).set (1+i) (.int β x)=Jl T (Z.set i x):=by
 unfold Jl;rw[Nat.add_comm,List.set_cons_succ,Oj]
structure A2(w:γ)(g:Nat)(T:Int)(Z:List Int):Prop where
 blk:BkA 190 w g (Jl T Z)
 inv:Cc Z
 tm:0<=T/\T<=1048576
def A2.below{w':γ}(h:A2 w g T Z)(a:Below w.heap.size w w'):A2 w' g T Z:=⟨h.blk.below a,h.inv,h.tm⟩
def A2.tu{F:Nat->Prop}{w':γ}(h:A2 w g T Z)(ht:Tu F w w')(a:¬F g):A2 w' g T Z:=⟨h.blk.tu ht a,h.inv,h.tm⟩
def A2.t(h:A2 w g T Z):w.cell? ⟨g,0,none⟩=some (.int β T):=h.blk.at 0 rfl
def A2.at(h:A2 w g T Z){n:Nat}(a:n<8):w.cell? ⟨g,1+n*2,none⟩=some (.int β (Z.getD (n*2) 0))/\w.cell? ⟨g,1+n*2+1,none⟩=some (.int β (Z.getD (n*2+1) 0)):=
 ⟨h.blk.at _ (Q2 T (by have:=h.inv.1;omega)),by rw[Nat.add_assoc];exact h.blk.at _ (Q2 T (by have:=h.inv.1;omega))⟩
def JB(x:Int)(w:γ):π α 117 #[.int β x] w fun e w'=>e=ε (.bool (Dt x))/\w'=w:=by
 unfold Dt;by_cases a:0<=x
 ·have c:decide (0<=x)=true:=decide_eq_true a
  go_enter func117,ntmps117;go_wp2;go_ret;exact⟨B8 (by simp[a]),rfl⟩
 ·have c:decide (0<=x)=false:=decide_eq_false a
  go_enter func117,ntmps117;go_wp2;go_ret;exact⟨B8 (by simp),rfl⟩
def JC(x:Int)(w:γ):π α 118 #[.int β x] w fun e w'=>e=ε (.bool (E0 x))/\w'=w:=by
 unfold E0;by_cases a:0<=x
 ·have c:decide (0<=x)=true:=decide_eq_true a
  go_enter func118,ntmps118;go_wp2;go_ret;exact⟨B8 (by simp[a]),rfl⟩
 ·have c:decide (0<=x)=false:=decide_eq_false a
  go_enter func118,ntmps118;go_wp2;go_ret;exact⟨B8 (by simp),rfl⟩
def ZN(a b:Int)(W:γ):
  (binOp .neq 187 (.agg #[.int β a,.int β b]) (.agg #[.int β 0,.int β 0])).run α W=.ok (.bool (G8 (a,b))) W:=by
 obtain⟨i,f⟩:∃i,Tryz.prog.info? 3=some i:=by
  cases h:Tryz.prog.info? 3 with
  |none=>exact absurd h (by decide+kernel)
  |some i=>exact⟨i,rfl⟩
 have e:Tryz.prog.cellsOf 3=1:=by kernel_rfl
 rw[run_neq_struct,run_equalIn_array W 9999 _ _ underlying187 f,e];by_cases c:a=0
 ·by_cases d:b=0
  ·simp[Op.eqItems,ο,BL,go_sem,underlying3,c,d,G8]
  ·simp[Op.eqItems,ο,BL,go_sem,underlying3,c,d,G8]
 ·simp[Op.eqItems,ο,BL,go_sem,underlying3,c,G8]
def Mr(a b:Int)(w:γ):π α 131 #[.agg #[.int β a,.int β b]] w fun e w'=>e=ε (.bool (G8 (a,b)))/\Below w.heap.size w w':=by
 have d:=ZN a b;have c:Tryz.prog.eqGuardType Tryz.prog.depth 187=false:=by kernel_rfl
 go_enter func131,ntmps131;go_wp2;go_ret;exact⟨rfl,(Below.refl _ _).alloc (η _) _⟩
def Wl(a b:Int)(w:γ):π α 119 #[.agg #[.int β a,.int β b]] w fun e w'=>e=ε (.int β a)/\Below w.heap.size w w':=by
 go_enter func119,ntmps119;go_wp2;go_ret;exact⟨rfl,(Below.refl _ _).alloc (η _) _⟩
def mz(a b:Int)(c:0<=b/\b<=1099511627777)(w:γ):π α 132 #[.agg #[.int β a,.int β b]] w fun e w'=>e=ε (.int β (b-1))/\Below w.heap.size w w':=by
 have d:IntKind.i64.wrap (b-1)=b-1:=by rw[τ];omega
 go_enter func132,ntmps132;go_wp2;go_ret;exact⟨rfl,(Below.refl _ _).alloc (η _) _⟩
def nF(i t:Int)(ht:0<=t/\t<=1099511627776)(w:γ):π α 120 #[.int β i,.int β t] w fun e w'=>e=ε (.agg #[.int β i,.int β (t+1)])/\Below w.heap.size w w':=by
 have a:IntKind.i64.wrap (t+1)=t+1:=by rw[τ];omega
 go_enter func120,ntmps120;go_wp2;exact bodyPost_ret (v:=.agg #[.int β i,.int β (t+1)]) (by simp[results,Tryz.results120,go_sem]) rfl ⟨rfl,(Below.refl _ _).alloc (η _) _⟩
def jX(g:Nat)(T:Int)(Z:List Int)(x:Int)(w:γ)(h:A2 w g T Z):
  π α 130 #[.pointer (some ⟨g,0,none⟩),.int β x] w fun e w'=>e=ε (.agg #[.int β (CG Z x).1,.int β (CG Z x).2])/\Below w.heap.size w w':=by
 by_cases j:Dt x=true
 ·obtain⟨n,k,rfl⟩:=K1 j
  rw[JX Z k];have f:=As w (.cells #[.int β 0,.int β 0] 187);obtain⟨c0,c1⟩:=(h.below f).at k;have l:(n:Int)<8:=by omega
  have o:=Ab f;clear h f;generalize Z.getD (n*2) 0=a at*;generalize Z.getD (n*2+1) 0=b at*;go_enter func130,ntmps130;go_wp2_with (go_at_call 117;refine(JB _ _).mono ?_;rintro e w1 ⟨rfl,c⟩;obtain rfl:=c.symm;clear c;rw[j]);exact bodyPost_ret (v:=.agg #[.int β a,.int β b]) (by simp[results,Tryz.results130,go_sem]) rfl ⟨rfl,As _ _⟩
 ·have d:Dt x=false:=by simpa using j
  rw[ME Z d];clear h;go_enter func130,ntmps130;go_wp2_with (go_at_call 117;refine(JB _ _).mono ?_;rintro e w1 ⟨rfl,c⟩;obtain rfl:=c.symm;clear c;rw[d]);exact bodyPost_ret (v:=.agg #[.int β 0,.int β 0]) (by simp[results,Tryz.results130,go_sem]) rfl ⟨rfl,As _ _⟩
def lP(t:Int)(w:γ):
  π α 70 #[.int β t] w fun e w'=>e=ε (.pointer (some ⟨w.heap.size,0,none⟩))/\A2 w' w.heap.size (CF t) (ι 16 0)/\Below w.heap.size w w':=by
 have d:=JJ t 0;have a:=Iz (max t 0) 1048576;have c:=Za t;rw[show min (max t 0) 1048576=CF t from rfl]at a;generalize CF t=T at*;generalize max t 0=f at*;go_enter func70,ntmps70;go_wp2;go_ret;exact⟨rfl,⟨AI 190 w (Jl T (ι 16 0)),Cc.zero,c⟩,As _ _⟩
structure PD where
 o:Int
 l:Int
 k:Int
 z:Int
 h:Int
 xs:List Nat
 s:ByteArray
def PD.dflt:PD:=⟨0,0,0,0,0,[],⟨#[]⟩⟩
def PKV.pd(p:PKV):PD:=⟨p.o,p.l,p.k,p.z,p.h,p.r.xs,p.r.s⟩
def BM(p:PD):Bool:=decide (((1<=p.k/\p.k<=128)/\1<=p.z/\p.z<=64)/\(0<=p.o/\p.o<=4294967295)/\(0<=p.l/\p.l<=p.k*p.z)/\0<=p.h/\p.h<=15)&&(AX p.k p.xs&&decide (0<cnt p.xs)&&decide ((p.s.size:Int)=p.z))
def Gp{p:PD}:BM p=true↔Cd p.o p.l p.k p.z p.h p.xs p.s.size:=by
 unfold BM Cd;rw[θ,θ,θ,Hg,decide_eq_true_eq,decide_eq_true_eq,decide_eq_true_eq];unfold Lc Je J4;rw[and_assoc (a:=Cm p.k p.xs)]
def QG(p:PD):EN (if BM p=true then 0 else 1) (Cd p.o p.l p.k p.z p.h p.xs p.s.size):=by
 by_cases h:BM p=true
 ·rw[if_pos h];exact .inl ⟨Gp.1 h,rfl⟩
 ·rw[if_neg h];exact .inr ⟨fun a=>h (Gp.2 a),rfl⟩
def I5{p:PD}(h:BM p=true):Cm p.k p.xs/\0<cnt p.xs/\(p.s.size:Int)=p.z/\1<=p.k/\p.k<=128/\p.z<=64:=by
 obtain⟨⟨⟨a,c⟩,_⟩,d,e,f⟩:=Gp.1 h;exact⟨d,e,f,a.1,a.2,c.2⟩
def JZ{p:PD}(h:BM p=true):p.xs.length<=2:=by
 obtain⟨⟨a,c,_⟩,_⟩:=I5 h;have:=DU p.k;omega
def Zi{p:PD}(h:BM p=true):(cnt p.xs:Int)<=p.k:=by
 obtain⟨⟨_,_,a⟩,_,_,e,_⟩:=I5 h;have c:=(Ps p.xs p.k.toNat).2 a;have d:=Qf p.xs p.k.toNat;omega
def vecsD(L:List PD):List (List Nat):=L.map fun p=>p.xs
def Bt(q p:PD):Bool:=decide (q.o=p.o/\q.l=p.l/\q.k=p.k/\q.z=p.z)
def Vu{p q:PD}(h:Bt p q=true):Bt q p=true:=by
 unfold Bt at*;rw[decide_eq_true_eq]at*;exact⟨h.1.symm,h.2.1.symm,h.2.2.1.symm,h.2.2.2.symm⟩
def Tw{p q r:PD}(h:Bt p q=true)(k:Bt q r=true):Bt p r=true:=by
 unfold Bt at*;rw[decide_eq_true_eq]at*;exact⟨h.1.trans k.1,h.2.1.trans k.2.1,h.2.2.1.trans k.2.2.1,h.2.2.2.trans k.2.2.2⟩
def Pc(p:PD):Bt p p=true:=by unfold Bt;rw[decide_eq_true_eq];exact⟨rfl,rfl,rfl,rfl⟩
def Qq{p:PKV}(h:BM p.pd=false):EN 1 (Cd p.o p.l p.k p.z p.h p.r.xs p.r.s.size):=by
 have:=QG p.pd;rw[h]at this;exact this
def MJ{p:PKV}(h:BM p.pd=true):EN 0 (Cd p.o p.l p.k p.z p.h p.r.xs p.r.s.size):=by
 have:=QG p.pd;rw[h]at this;exact this
def Lq{ps:List PKV}{i:Nat}(a:i<ps.length):(ps.map PKV.pd).getD i .dflt=(ps.getD i .dflt).pd:=by
 rw[U,List.getElem?_map,δ a,U,δ a];rfl
end
section
variable {D:DataW Unit}{L:List Nat}{x b n g m N:Nat}{w w':γ}
def Dj(p:PD):Nat:=if BM p=true then Jt (BJ p.o p.l p.k p.z 0 p.xs (tx p.s))else 0
def Zo{p:PD}(h:BM p=true):Dj p=Jt (BJ p.o p.l p.k p.z 0 p.xs (tx p.s)):=if_pos h
def bY{p:PD}(h:BM p=false):Dj p=0:=if_neg (by rw[h];decide)
def QJ(p:PD):Dj p<4294967296:=by
 unfold Dj;split
 ·exact Xy (Ko _ _ _ _ _ _ _ (Cg _))
 ·decide
def Dz(L:List Nat)(x:Nat):Bool:=L.contains x
def Vo:Dz L x=true↔x∈L:=by simp[Dz]
def MS:Dz L x=false↔x∉L:=by rw[<-Vo];simp
def Dp(L:List Nat)(p:PD):Bool:=BM p&& !Dz L (Dj p)
def G5(m:Nat)(L:List Nat)(x:Nat):List Nat:=if m=0 then L else if L.length=m then L.tail++[x]else L++[x]
def Hy(m:Nat)(L:List Nat)(p:PD):List Nat:=if Dp L p=true then G5 m L (Dj p)else L
def Lp{a:Nat}(h:(.int ν (a:Int):Lit)=.int ν (b:Int)):a=b:=by
 simp only[Lit.int.injEq,true_and]at h;omega
def Qd(a:Nat):WideAt.IsKeyLit (.int ν (a:Int)):=trivial
def cK(a b:Nat):(Lit.int ν (a:Int)).sameKey (.int ν (b:Int))=decide (a=b):=by
 by_cases e:a=b
 ·subst e;rw[WideAt.sameKey_self (Qd a)];simp
 ·rw[sameKey_ne (fun h=>e (Lp h))];simp[e]
structure Ep(D:DataW Unit)(nx:Nat)(es:List (Nat×Nat)):Prop where
 has:∀x:Nat,Maps.has D (.int ν (x:Int))=Dz (es.map Prod.fst) x
 at':∀p∈es,∀z,D.atKey (.int ν (p.1:Int)) z=.lit (.int β (p.2:Int))
 size:Maps.size D=es.length
 rise:es.Pairwise fun p q=>p.2<q.2
 two:es.Pairwise fun p q=>p.1≠q.1
 low:∀p∈es,p.2<nx
def Ep.empty:Ep (.map []) 0 []:=
 ⟨fun x=>rfl,fun p h=>(by cases h),rfl,List.Pairwise.nil,List.Pairwise.nil,fun p h=>(by cases h)⟩
def Ep.put{nx:Nat}{c:List (Nat×Nat)}(h:Ep D nx c)(d:Tidy D){x:Nat}(j:x∉c.map Prod.fst):
  Ep (D.put (.int ν (x:Int)) (.lit (.int β (nx:Int)))) (nx+1) (c++[(x,nx)]):=by
 have k:Maps.has D (.int ν (x:Int))=false:=by rw[h.has,MS];exact j
 refine⟨fun y=>?_,fun p hp z=>?_,?_,?_,?_,fun p hp=>?_⟩
 ·by_cases e:y=x
  ·subst e
   rw[has_put_same d.isMap (Qd y)];simp[Dz]
  ·rw[has_put_other (fun f=>e (Lp f)),h.has]
   simp[Dz,e]
 ·rw[List.mem_append,ζ]at hp
  rcases hp with hp|rfl
  ·have:p.1≠x:=fun e=>j (List.mem_map.2 ⟨p,hp,e⟩)
   rw[atKey_put_other (fun f=>this (Lp f))];exact h.at' p hp z
  ·exact atKey_put_same d.isMap (Qd x) _ z
 ·rw[size_put d,k,h.size];simp
 ·rw[ρ]
  exact⟨h.rise,μ _ _,fun p hp q a=>by rw[ζ]at a;subst a;exact h.low p hp⟩
 ·rw[ρ]
  exact⟨h.two,μ _ _,fun p hp q a=>by rw[ζ]at a;subst a;exact fun e=>j (List.mem_map.2 ⟨p,hp,e⟩)⟩
 ·rw[List.mem_append,ζ]at hp
  rcases hp with hp|rfl
  ·have:=h.low p hp;omega
  ·show nx<nx+1;omega
def Ep.del{nx k s:Nat}{a:List (Nat×Nat)}(h:Ep D nx ((k,s)::a))(f:Tidy D):Ep (D.del (.int ν (k:Int))) nx a:=by
 have o:=List.pairwise_cons.1 h.rise;have ht:=List.pairwise_cons.1 h.two
 have d:k∉a.map Prod.fst:=fun l=>by
  obtain⟨p,hp,e⟩:=List.mem_map.1 l;exact ht.1 p hp e.symm
 have j:Maps.has D (.int ν (k:Int))=true:=by rw[h.has];simp[Dz]
 refine⟨fun y=>?_,fun p hp z=>?_,?_,o.2,ht.2,fun p hp=>h.low p (ς _ hp)⟩
 ·by_cases e:y=k
  ·subst e
   rw[has_del_same];exact(MS.2 d).symm
  ·rw[has_del_other (fun c=>e (Lp c)),h.has]
   simp[Dz,e]
 ·have:p.1≠k:=fun e=>d (List.mem_map.2 ⟨p,hp,e⟩)
  rw[atKey_del_other (fun c=>this (Lp c))];exact h.at' p (ς _ hp) z
 ·have:=size_del (k:=.int ν (k:Int)) f
  rw[j,h.size]at this;simp only[if_true,List.length_cons]at this;omega
def Kc:Keyed α 112:=int_keyed underlying112
def bQ(w:γ):(zeroValue 3).run α w=.ok (.int β 0) w:=by kernel_rfl
def Nu(h:x<4294967296):keyOf α 112 (.int ν (x:Int))=some (.int ν (x:Int)):=keyOf_int_mk underlying112 (WalkArith.wf_u32 (by omega))
def AY(w:γ)(b n:Nat)(D:DataW Unit):Prop:=w.ownsMap α 112 (plainElem α 3) b n D
def AY.lt(h:AY w b n D):b<w.heap.size:=World.ownsMap.lt h
def AY.tu{F:Nat->Prop}(h:AY w b n D)(ht:Tu F w w')(d:¬F b):AY w' b n D:=by
 have f:=h.lt;obtain⟨c,a,e,r⟩:=h;exact⟨c,a,(ht.block b f d).trans e,r⟩
def AY.exact(h:AY w b n D):AY w b (Maps.size D) D:=by
 obtain⟨c,a,d,F,e,rfl⟩:=h;exact⟨c,a,d,F,by simp[Maps.size,length_sorted],rfl⟩
def AY.tidy(h:AY w b n D):Tidy D:=World.ownsMap.tidy h Kc
def Qw(h:w.mapTurned w' b):Tu (fun j=>j=b) w w':=Tu.of_gb h.grown fun j _ e=>(Option.some.inj e).symm
def AY.nocells(h:AY w b n D)(c:Array Value)(t:TypeId)(m:Nat×Nat):w.heap[b]? ≠some (.cells c t m):=by
 obtain⟨f,a,d,_⟩:=h;rw[d];intro e;cases e
structure AW(w:γ)(g b m N:Nat)(L:List Nat):Prop where
 it:∃nx es D,nx<=N/\BkA 193 w g [.int β (m:Int),.map (some b),.int β (nx:Int)]/\AY w b L.length D/\Ep D nx es/\L=es.map Prod.fst
 len:L.length<=m
 most:m<=256
def F2(g b:Nat)(j:Nat):Prop:=j=g\/j=b
def AW.lt(h:AW w g b m N L):g<w.heap.size/\b<w.heap.size:=by
 obtain⟨nx,d,D,_,a,c,_⟩:=h.it;exact⟨a.lt,c.lt⟩
def AW.tu{F:Nat->Prop}(h:AW w g b m N L)(ht:Tu F w w')(d:¬F g)(c:¬F b):AW w' g b m N L:=by
 obtain⟨nx,a,D,f,e,j,r⟩:=h.it;exact⟨⟨nx,a,D,f,e.tu ht d,j.tu ht c,r⟩,h.len,h.most⟩
def AW.below(h:AW w g b m N L)(a:Below w.heap.size w w'):AW w' g b m N L:=h.tu (F:=fun _=>False) (Tu.of_below a) id id
def AW.mono{a:Nat}(h:AW w g b m N L)(d:N<=a):AW w g b m a L:=by
 obtain⟨nx,c,D,e,r⟩:=h.it;exact⟨⟨nx,c,D,κ e d,r⟩,h.len,h.most⟩
end
end Go.Proofs.YtfpmnekaockodaaGreatDoor
