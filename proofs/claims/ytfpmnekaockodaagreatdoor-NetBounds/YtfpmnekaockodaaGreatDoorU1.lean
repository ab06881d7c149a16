/- Laws for the proof. -/
import Derived.Test.YtfpmnekaockodaaGreatDoorU0
import Derived.Deep.QuietTactic
import Derived.OwnWalk
import Derived.Laws.IdiomCopy
import Derived.Laws.NewBlocks
import Derived.Deep.RegionLaw
namespace Go.Proofs.YtfpmnekaockodaaGreatDoor
open Go.RowKit Go.Sort
set_option linter.all false
set_option maxRecDepth 4000
set_option maxHeartbeats 8000000
theorem He(a:Option Addr)(n c:Nat)(xs:List Nat)(w:World)(h:RowAt w a n xs)(D:n*8<=140737488351232):
  Calls Tryz.prog 253 #[.slice a n c] w fun e w'=> ∃v,e=.returned v/\Own w' w.heap.size v xs/\Below w.heap.size w w':=by
 have g:=fun wx=>Lib.run_eql_slice_nil (P:=Tryz.prog) wx 40 265 a n c 0 0 Tryz.underlying40;obtain⟨C,y,j,l,m⟩:=info_parts KV;cases a with
 |none=>
  have i:n=0:=by
   rcases h.2.2 with i|⟨b,off,x,_⟩
   ·exact i
   ·cases x
  subst i;have A:xs=[]:=List.eq_nil_of_length_eq_zero h.1;subst A;go_enter Tryz.func253,Tryz.ntmps253;go_wp2;go_ret;exact⟨_,rfl,Own.nil _ _,Below.refl _ _⟩
 |some u=>
  go_enter Tryz.func253,Tryz.ntmps253;go_wp2_with (first|(at_builtin;refine wpList_append_own _ rfl (.tmp 5) (.tmp 6) 40 rfl w.heap.size 265 C (.int .u64 0) 1 8 Tryz.underlying40 y j l m rfl (by decide) _ _ _ rfl (World.ownsRow_lit _ #[] 0 (Nat.le_refl _) (by decide) rfl) u n c (cellsU xs) rfl ?c0 ?c1 ?c2 ?c3 ?c4 ?c5 ?_))
  case c0=>rw[NL,h.1,Nat.mul_one]
  case c1=>exact(h.below ((Below.refl _ _).alloc (Nat.le_refl _) _)).news
  case c2=>exact SD xs
  case c3=>unfold maxLen;omega
  case c4=>omega
  case c5=>simp
  intro v' w1 f d _;have o:Below w.heap.size w w1:=((Below.refl _ _).alloc (Nat.le_refl _) _).grown d (by simp) (fun k z=>by simp[Value.ownBlock]at z;omega);have p:Own w1 w.heap.size v' xs:=⟨h.2.1,by rw[h.1];simpa using f⟩;have s:=Ab p;have q:=Ab o;clear f d o p g h;go_wp2;go_ret;exact⟨_,rfl,Aa s,Aa q⟩
theorem LY(a:Option Addr)(n c:Nat)(i:Int)(b:0<=i)(d:i<=9223372036854775807)(w:World):
  Calls Tryz.prog 268 #[.slice a n c,.int .i64 i] w fun e w'=>e=.returned (.bool (decide (i/64<(n:Int))))/\w'=w:=by
 go_enter Tryz.func268,Tryz.ntmps268;go_wp2;go_ret;exact⟨rfl,rfl⟩
theorem SU(a:Option Addr)(n c:Nat)(i:Int)(b:i<0)(w:World):
  Calls Tryz.prog 268 #[.slice a n c,.int .i64 i] w fun e w'=>e=.returned (.bool false)/\w'=w:=by
 have d:decide (0<=i)=false:=by simp;omega
 go_enter Tryz.func268,Tryz.ntmps268;go_wp2;go_ret;exact⟨rfl,rfl⟩
theorem Pr(i:Int):IntKind.u64.wrap (2^(i%64).toNat)=((2^(i%64).toNat:Nat):Int):=by
 have h:(i%64).toNat<64:=by omega
 have b:2^(i%64).toNat<2^64:=Nat.pow_lt_pow_right (by decide) h;rw[IntKind.wrap_u64];have a:((2:Int)^(i%64).toNat)=((2^(i%64).toNat:Nat):Int):=by simp
 rw[a];exact Int.emod_eq_of_lt (Int.natCast_nonneg _) (by omega)
theorem UZ(i:Int)(a:0<=i)(b:i<=9223372036854775807)(w:World):
  Calls Tryz.prog 269 #[.int .i64 i] w fun e w'=>e=.returned (.int .u64 ((2^(i%64).toNat:Nat):Int))/\w'=w:=by
 go_enter Tryz.func269,Tryz.ntmps269;go_wp2;go_ret;exact⟨CC (Pr i),rfl⟩
theorem Yt(x:Nat)(i:Int)(a:x<18446744073709551616):(bits .and .u64 (x:Int) ((2^(i%64).toNat:Nat):Int) !=0)=x.testBit (i%64).toNat:=by
 have h:(i%64).toNat<64:=by omega
 have b:2^(i%64).toNat<2^64:=Nat.pow_lt_pow_right (by decide) h;rw[u64_and_nat x _ a (by omega),nat_bit,Nat.testBit_eq_decide_div_mod_eq];have hp:0<2^(i%64).toNat:=Nat.pow_pos (by decide);rcases Nat.mod_two_eq_zero_or_one (x/2^(i%64).toNat)with e|e
 ·rw[e];simp
 ·rw[e]
  rw[bne_iff_ne.2 (by omega)];simp
theorem Yu(a:Option Addr)(n c:Nat)(i:Int)(w:World)(j:i<=9223372036854775807)(k:i<0\/(n:Int)<=i/64):
  Calls Tryz.prog 238 #[.slice a n c,.int .i64 i] w fun e w'=>e=.returned (.bool false)/\∃d,w'=w.drewN d:=by
 have b:∀wx:World,Calls Tryz.prog 268 #[.slice a n c,.int .i64 i] wx fun e w'=>e=.returned (.bool false)/\w'=wx:=by
  by_cases g:0<=i
  ·have h:decide (i/64<(n:Int))=false:=by simp;omega
   intro wx;have:=LY a n c i g j wx;rwa[h]at this
  ·exact fun wx=>SU a n c i (by omega) wx
 have f:=Ab b;clear b;go_enter Tryz.func238,Tryz.ntmps238;go_wp2_with fail;go_quiet ((go_at_call 268;exact Calls.quiet_of_same (Aa f _)));go_wp2;go_ret;exact⟨rfl,_,rfl⟩
theorem ZW(a:Option Addr)(n c:Nat)(xs:List Nat)(i:Int)(w:World)(h:RowAt w a n xs)(j:0<=i)(o:i<=9223372036854775807)(y:i/64<(n:Int))(z:n*8<=140737488351232):
  Calls Tryz.prog 238 #[.slice a n c,.int .i64 i] w fun e w'=>e=.returned (.bool (Ai xs i.toNat))/\∃d,w'=w.drewN d:=by
 obtain⟨b,off,rfl,l⟩:=h.at (i:=(i/64).toNat) (by omega);have g:=l (i/64).toNat (by omega);have f:=Yt (xs.getD (i/64).toNat 0) i (h.2.1.get _);have s:=Ab f;have hW:∀wx:World,Calls Tryz.prog 268 #[.slice (some ⟨b,off,none⟩) n c,.int .i64 i] wx fun e w'=>e=.returned (.bool true)/\w'=wx:=by
  intro wx;have:=LY (some ⟨b,off,none⟩) n c i j o wx;rwa[show decide (i/64<(n:Int))=true by simp;omega]at this
 have u:=Ab hW;have k:=fun wx=>UZ i j o wx;have q:=Ab k;have m:Ai xs i.toNat=(xs.getD (i/64).toNat 0).testBit (i%64).toNat:=by
  unfold Ai;rw[show i.toNat/64=(i/64).toNat by omega,show i.toNat%64=(i%64).toNat by omega]
 have p:=Ab m;generalize xs.getD (i/64).toNat 0=x at*;clear f hW k m l h;go_enter Tryz.func238,Tryz.ntmps238;go_wp2_with fail;go_quiet ((first|(go_at_call 268;exact Calls.quiet_of_same (Aa u _))|(go_at_call 269;exact Calls.quiet_of_same (Aa q _))));go_wp2;go_ret;exact⟨Ce ((Aa s).trans (Aa p).symm),_,rfl⟩
def E8(xs:List Nat)(i:Int):Bool:=if i<0 then false else Ai xs i.toNat
theorem qR{xs:List Nat}{i:Int}(h:¬(0<=i/\i/64<(xs.length:Int))):E8 xs i=false:=by
 unfold E8;split
 ·rfl
 ·exact E1 xs _ (by omega)
theorem W6{xs:List Nat}{i:Int}(h:0<=i):E8 xs i=Ai xs i.toNat:=by
 unfold E8;rw[if_neg (by omega)]
theorem MR(a:Option Addr)(n c:Nat)(xs:List Nat)(i:Int)(w:World)(h:RowAt w a n xs)(g:n<=1048576)(f:i<=9223372036854775807):
  Calls Tryz.prog 238 #[.slice a n c,.int .i64 i] w fun e w'=>e=.returned (.bool (E8 xs i))/\∃d,w'=w.drewN d:=by
 by_cases b:0<=i/\i/64<(xs.length:Int)
 ·rw[W6 b.1]
  exact ZW a n c xs i w h b.1 f (by rw[<-h.1];exact b.2) (by omega)
 ·rw[qR b]
  exact Yu a n c i w f (by rw[<-h.1];omega)
theorem MB(xs:List Nat)(k:Nat):E8 xs (k:Int)=Ai xs k:=by rw[W6 (by omega),Int.toNat_natCast]
theorem Vc(a:Option Addr)(n c:Nat)(xs:List Nat)(k:Nat)(w:World)(h:RowAt w a n xs)(b:n<=1048576)(f:k<=9223372036854775807):
  Calls Tryz.prog 238 #[.slice a n c,.int .i64 (k:Int)] w fun e w'=>e=.returned (.bool (Ai xs k))/\Below w.heap.size w w':=by
 refine(MR a n c xs k w h b (by omega)).mono ?_;rintro e w' ⟨rfl,d,rfl⟩;rw[MB];exact⟨rfl,below_drewN (Below.refl _ _) d⟩
theorem cJ(a b:ByteArray)(w:World)(h:a.size<=1048576)(k:b.size<=1048576):
  Calls Tryz.prog 315 #[.string a,.string b] w fun e w'=>e=.returned (.string (Jt a b))/\Below w.heap.size w w':=by
 go_enter Tryz.func315,Tryz.ntmps315;go_wp2_with fail;refine(MM _ [] a w.heap.size w (AE.nil _ _) (Nat.le_refl _) (by simp) h).mono ?_;rintro e w1 ⟨v,rfl,g,f⟩;rw[Ps]at g;go_wp2_with fail;refine(MM v (tx a) b w.heap.size w1 g f.size (by rw[AU];exact h) k).mono ?_;rintro e w2 ⟨l,rfl,d,c⟩;have j:=d.text;have i:=Ab (f.trans c);clear g f d c;go_wp2;go_ret;exact⟨rfl,Aa i⟩
def LB(s:ByteArray):Bool:=(tx s).all fun x=>x==0
theorem nY(s:ByteArray):LB s=true↔∀i,(tx s).getD i 0=0:=by
 rw[<-Kp];simp[LB]
def BJ(vs:List Nat):Nat->Nat
 |0=>0
 |k+1=>BJ vs k+if Ai vs k then 1 else 0
theorem PZ(vs:List Nat):∀k,BJ vs k<=k
 |0=>Nat.le_refl _
 |k+1=>by
  have:=PZ vs k;unfold BJ;split<;>omega
theorem OZ(vs:List Nat)(n:Nat):∀d,BJ vs n<=BJ vs (n+d)
 |0=>Nat.le_refl _
 |d+1=>by
  have:=OZ vs n d;show _<=BJ vs (n+d)+_;omega
theorem O0(vs:List Nat)(n:Nat)(h:∀i,n<=i->Ai vs i=false):∀d,BJ vs (n+d)=BJ vs n
 |0=>rfl
 |d+1=>by
  show BJ vs (n+d)+(if Ai vs (n+d)then 1 else 0)=_;rw[O0 vs n h d,h (n+d) (by omega)];simp
theorem nL(vs:List Nat)(n d i:Nat)(f:n<=i)(g:i<n+d)(e:Ai vs i=true):BJ vs n<BJ vs (n+d):=by
 have a:=OZ vs n (i-n);have b:=OZ vs (i+1) (n+d-(i+1));rw[show n+(i-n)=i from by omega]at a;rw[show i+1+(n+d-(i+1))=n+d from by omega]at b;have c:BJ vs (i+1)=BJ vs i+1:=by simp[BJ,e]
 omega
def H7(x:Nat):Nat->Nat
 |0=>0
 |f+1=>H7 x f+if x.testBit f then 1 else 0
theorem Xy(x:Nat):∀f,H7 x (f+1)=x%2+H7 (x/2) f
 |0=>by
  have:x.testBit 0=decide (x%2=1):=Nat.testBit_zero x;simp only[H7,this];by_cases h:x%2=1
  ·simp[h]
  ·simp[h];omega
 |f+1=>by
  have e:x.testBit (f+1)=(x/2).testBit f:=by rw[Nat.testBit_succ]
  show H7 x (f+1)+(if x.testBit (f+1)then 1 else 0)=x%2+(H7 (x/2) f+if (x/2).testBit f then 1 else 0);rw[Xy x f,e];omega
theorem Wk:∀f x,C0 f x=H7 x f
 |0,x=>rfl
 |f+1,x=>by
  rw[Xy,<-Wk f (x/2)];rfl
theorem Kq(x:Nat)(xs:List Nat)(i:Nat)(h:i<64):Ai (x::xs) i=x.testBit i:=by
 unfold Ai;rw[show i/64=0 from by omega,show i%64=i from by omega];rfl
theorem LL(x:Nat)(xs:List Nat)(i:Nat):Ai (x::xs) (64+i)=Ai xs i:=by
 unfold Ai;rw[show(64+i)/64=i/64+1 from by omega,show(64+i)%64=i%64 from by omega];rfl
theorem UO(x:Nat)(xs:List Nat):∀f,f<=64->BJ (x::xs) f=H7 x f
 |0,_=>rfl
 |f+1,h=>by
  show BJ (x::xs) f+_=H7 x f+_;rw[UO x xs f (by omega),Kq x xs f (by omega)]
theorem UP(x:Nat)(xs:List Nat):∀k,BJ (x::xs) (64+k)=pop x+BJ xs k
 |0=>by rw[Nat.add_zero,UO x xs 64 (Nat.le_refl _)];unfold pop;rw[Wk];rfl
 |k+1=>by
  show BJ (x::xs) (64+k)+(if Ai (x::xs) (64+k)then 1 else 0)=pop x+(BJ xs k+if Ai xs k then 1 else 0);rw[UP x xs k,LL];omega
theorem Mx:∀xs,cnt xs=BJ xs (64*xs.length)
 |[]=>rfl
 |x::xs=>by
  rw[Mw,List.length_cons,show 64*(xs.length+1)=64+64*xs.length from by omega,UP,Mx xs]
theorem Pl(vs:List Nat)(n:Nat):BJ vs n=cnt vs↔∀i,n<=i->Ai vs i=false:=by
 rw[Mx];constructor
 ·intro h i a
  by_cases c:i<64*vs.length
  ·cases b:Ai vs i with
   |false=>rfl
   |true=>
    have:=nL vs n (64*vs.length-n) i a (by omega) b;rw[show n+(64*vs.length-n)=64*vs.length from by omega]at this;omega
  ·exact E1 vs i (by omega)
 ·intro h
  by_cases c:n<=64*vs.length
  ·have:=O0 vs n h (64*vs.length-n)
   rw[show n+(64*vs.length-n)=64*vs.length from by omega]at this;omega
  ·have:=O0 vs (64*vs.length) (fun i a=>E1 vs i a) (n-64*vs.length)
   rw[show 64*vs.length+(n-64*vs.length)=n from by omega]at this;omega
theorem lq(a b:List Nat)(i:Nat):Ai (xorL a b) i=(Ai a i^^Ai b i):=by
 unfold Ai;rw[Du,Nat.testBit_xor]
theorem Vb(i:Nat):Ai [] i=false:=E1 [] i (by simp)
variable {ss:List ByteArray}{B:Nat}{v:Value}{w:World}
def As(w:World)(a:Option Addr)(n:Nat)(ss:List ByteArray):Prop:=
 ss.length=n/\(n=0\/∃b off,a=some ⟨b,off,none⟩/\∀i,i<n->w.cell? ⟨b,off+i,none⟩=some (.string (ss.getD i ByteArray.empty)))
theorem As.at{a:Option Addr}{n:Nat}(h:As w a n ss){i:Nat}(d:i<n):
  ∃b off,a=some ⟨b,off,none⟩/\∀i,i<n->w.cell? ⟨b,off+i,none⟩=some (.string (ss.getD i ByteArray.empty)):=by
 rcases h.2 with c|c
 ·omega
 ·exact c
theorem As.below{w':World}{a:Option Addr}{n:Nat}(h:As w a n ss)(f:Below w.heap.size w w'):As w' a n ss:=by
 refine⟨h.1,?_⟩;rcases h.2 with e|⟨b,off,rfl,c⟩
 ·exact .inl e
 ·exact .inr ⟨b,off,rfl,fun i d=>(f.cell (World.block_lt_of_cell? w _ (c i d))).trans (c i d)⟩
def shorts(ss:List ByteArray):Prop:=∀s∈ss,s.size<=1048576
theorem shorts.get(h:shorts ss)(i:Nat):(ss.getD i ByteArray.empty).size<=1048576:=by
 rw[List.getD_eq_getElem?_getD];cases a:ss[i]? with
 |none=>simp
 |some x=>exact h x (List.mem_of_getElem? a)
theorem As.none(w:World):As w none 0 []:=⟨rfl,.inl rfl⟩
theorem Mc:(Tryz.prog.info? 9).map (fun i=>(i.zero,i.size,i.bytes))=some (some (.string ByteArray.empty),1,16):=by kernel_rfl
def BM(ss:List ByteArray):List Value:=ss.map Value.string
theorem dU(ss:List ByteArray):(BM ss).length=ss.length:=by simp[BM]
theorem SC(ss:List ByteArray)(i:Nat)(h:i<ss.length):(BM ss)[i]? =some (.string (ss.getD i ByteArray.empty)):=by
 simp[BM,List.getElem?_eq_getElem h,List.getD_eq_getElem?_getD]
def Ar(w:World)(B:Nat)(v:Value)(ss:List ByteArray):Prop:=w.ownsRow B 9 1 v ss.length (BM ss)
theorem Ar.nil(w:World)(B:Nat):Ar w B (.slice none 0 0) []:=World.ownsRow_nil _ _ _ _
theorem Ar.texts(h:Ar w B v ss):∃a c,v=.slice a ss.length c/\As w a ss.length ss:=by
 have e:w.ownsRow B 9 1 v ss.length (BM ss):=h;rcases h.2 with⟨rfl,b⟩|⟨g,cap,d,rfl,k,l,n,m,j,ht⟩
 ·exact⟨none,0,by rw[b],rfl,.inl b⟩
 ·refine⟨_,cap,rfl,rfl,.inr ⟨g,0,rfl,fun i f=>?_⟩⟩
  rw[Nat.zero_add,e.cellAt i (by omega),SC ss i f]
theorem Ar.mono{B':Nat}(h:Ar w B v ss)(d:B'<=B):Ar w B' v ss:=by
 refine⟨h.1,?_⟩;rcases h.2 with b|⟨g,cap,a,c,e,r⟩
 ·exact .inl b
 ·exact .inr ⟨g,cap,a,c,Nat.le_trans d e,r⟩
theorem Ar.below{w':World}(h:Ar w B v ss)(e:Below w.heap.size w w'):Ar w' B v ss:=by
 refine⟨h.1,?_⟩;rcases h.2 with c|⟨g,cap,b,d,f,a,r⟩
 ·exact .inl c
 ·exact .inr ⟨g,cap,b,d,f,(e.block g (Array.getElem?_eq_some_iff.1 a).1).trans a,r⟩
theorem RJ{ops:Array Oper}{rest:List Oper}{o:Oper}{act:Act}{Q:Exit->Act->World->Prop}(e:o.guard=none)(s x:Operand)
  (A:o.op=.call {callee:=.builtin .append,args:=#[s,x],argTypes:=#[66,66]}) (B:Nat) (v:Value) (ss:List ByteArray) (t:ByteArray)
  (C:act.eval s=v) (E:act.eval x=.slice (some ⟨w.heap.size,0,none⟩) 1 1) (h:Ar w B v ss) (d:B<=w.heap.size) (I:ss.length<=1048576)
  (p:∀n w',Ar w' B n (ss++[t])->Below B w w'->wpList Tryz.prog ops Q rest (act.put o.dst n) w'):wpList Tryz.prog ops Q (o::rest) act (w.alloc (.cells #[.string t] 9)):=by
 obtain⟨H,y,f,g,i⟩:=info_parts Mc;have c:Below w.heap.size w (w.alloc (.cells #[.string t] 9)):=(Below.refl _ _).alloc (Nat.le_refl _) _;have l:(w.alloc (.cells #[.string t] 9)).ownsRow B 9 1 v ss.length (BM ss):=h.below c
 refine wpList_append_own _ e s x 66 A B 9 H (.string ByteArray.empty) 1 16 Tryz.underlying66 y f g i rfl (by decide) v ss.length (BM ss) C l ⟨w.heap.size,0,none⟩ 1 1 [.string t] E rfl (fun j u m=>?_)
  (fun u D=>by rw[List.mem_singleton.1 D];rfl) (by unfold maxLen;omega) (by omega) (Nat.le_trans d c.size) ?_
 ·match j with
  |0=>
   have q:(w.alloc (.cells #[.string t] 9)).cell? ⟨w.heap.size,0,none⟩=some (.string t):=by rw[World.cell?_alloc_at _ _ _ _ rfl];rfl
   simpa [Addr.add,q]using m
  |j+1=>simp at m
 ·intro v' w' a b _
  refine p v' w' ?_ ((c.mono d).grown b (Nat.le_trans d c.size) fun k z=>(l.lt k z).1);rw[show BM ss++[.string t]=BM (ss++[t]) by simp[BM]]at a;show w'.ownsRow B 9 1 v' (ss++[t]).length (BM (ss++[t]));rw[List.length_append];exact a
def Cz(ss:List ByteArray):List Nat:=ss.foldl (fun a s=>xorL a (tx s)) []
theorem nu(ss:List ByteArray)(k:Nat)(h:k<ss.length):Cz (ss.take (k+1))=xorL (Cz (ss.take k)) (tx (ss.getD k ByteArray.empty)):=by
 unfold Cz;rw[List.take_succ_eq_append_getElem h,List.foldl_append];simp[List.getD_eq_getElem?_getD,List.getElem?_eq_getElem h]
theorem fE(ss:List ByteArray):∀a,bytes a->bytes (ss.foldl (fun a s=>xorL a (tx s)) a):=by
 induction ss with
 |nil=>exact fun a h=>h
 |cons s ss b=>exact fun a h=>b _ (Oe h (Ck s))
theorem jk(ss:List ByteArray):bytes (Cz ss):=fE ss [] Jx
theorem lj(ss:List ByteArray)(c:shorts ss):∀a:List Nat,a.length<=1048576->(ss.foldl (fun a s=>xorL a (tx s)) a).length<=1048576:=by
 induction ss with
 |nil=>exact fun a h=>h
 |cons s ss d=>
  intro a h;refine d (fun s b=>c s (List.mem_cons_of_mem _ b)) _ ?_;rw[BY,AU];have:=c s List.mem_cons_self;omega
theorem rT(ss:List ByteArray)(a:shorts ss)(k:Nat):(Cz (ss.take k)).length<=1048576:=lj _ (fun s h=>a s (List.mem_of_mem_take h)) [] (by simp)
theorem Xu{xs:List Nat}(h:bytes xs):(st xs).size=xs.length:=by rw[<-AU,DE h]
theorem Xx(a:Option Addr)(n c:Nat)(ss:List ByteArray)(w:World)(h:As w a n ss)(s:shorts ss)(C:n<=1048576):
  Calls Tryz.prog 291 #[.slice a n c] w fun e w'=>e=.returned (.string (st (Cz ss)))/\Below w.heap.size w w':=by
 go_enter Tryz.func291,Tryz.ntmps291;go_wp2;go_loopw [3,8] (fun v i wr=> ∃k:Nat,k<=n/\i=.int .i64 k/\Hid (AE wr w.heap.size v (Cz (ss.take k)))/\Hid (Below w.heap.size w wr)) (fun _ i _=>n-(intOf i).toNat)
 case atStart=>exact⟨0,Nat.zero_le _,rfl,Ab (AE.nil _ _),Ab (Below.refl _ _)⟩
 case round=>
  rename_i wr;obtain⟨k,A,rfl,o,j⟩:=hrel;by_cases f:k<n
  ·obtain⟨b,off,rfl,x⟩:=(h.below (Aa j)).at f
   have d:=x k f;have H:=Ab h;have u:=Ab s;have z:(k:Int)<(n:Int):=by omega
   clear x h s;go_wp2_with fail;refine(MM _ _ _ w.heap.size _ (Aa o) (Aa j).size (rT ss (Aa u) k) ((Aa u).get k)).mono ?_;rintro e w1 ⟨D,rfl,g,l⟩;rw[<-nu ss k (by rw[(Aa H).1];exact f)]at g;have p:=Ab g;have m:=Ab ((Aa j).trans l);clear g l o j d;go_wp2;go_roundw
   case rel=>exact⟨k+1,by omega,by go_num,p,m⟩
   case measure=>simp[intOf];omega
  ·have q:=(Aa o).text
   have y:ss.take k=ss:=List.take_of_length_le (by rw[h.1];omega);rw[y]at q;clear h s y;go_wp2;go_ret;exact⟨rfl,Aa j⟩
def Br(ss:List ByteArray)(vs:List Nat):Nat->List Nat
 |0=>[]
 |k+1=>if Ai vs k then xorL (Br ss vs k) (tx (ss.getD k ByteArray.empty))else Br ss vs k
theorem I4(ss:List ByteArray)(vs:List Nat):∀k,bytes (Br ss vs k)
 |0=>Jx
 |k+1=>by
  unfold Br;split
  ·exact Oe (I4 ss vs k) (Ck _)
  ·exact I4 ss vs k
theorem PM(ss:List ByteArray)(vs:List Nat)(a:shorts ss):∀k,(Br ss vs k).length<=1048576
 |0=>by simp[Br]
 |k+1=>by
  unfold Br;have:=PM ss vs a k;split
  ·rw[BY,AU];have:=a.get k;omega
  ·exact this
theorem Xh{vs:List Nat}{k:Nat}(h:Ai vs k=true):Br ss vs (k+1)=xorL (Br ss vs k) (tx (ss.getD k ByteArray.empty)):=by simp[Br,h]
theorem QQ{vs:List Nat}{k:Nat}(h:Ai vs k=false):Br ss vs (k+1)=Br ss vs k:=by simp[Br,h]
theorem QR(a:Option Addr)(n c:Nat)(ss:List ByteArray)(y:Option Addr)(m H:Nat)(vs:List Nat)(w:World)(h:As w a n ss)(C:shorts ss)(P:n<=1048576)(z:RowAt w y m vs)(N:m<=1048576):
  Calls Tryz.prog 198 #[.slice a n c,.slice y m H] w fun e w'=>e=.returned (.string (st (Br ss vs n)))/\Below w.heap.size w w':=by
 go_enter Tryz.func198,Tryz.ntmps198;go_wp2;go_loopw [5,10] (fun v i wr=> ∃k:Nat,k<=n/\i=.int .i64 k/\Hid (AE wr w.heap.size v (Br ss vs k))/\Hid (Below w.heap.size w wr)) (fun _ i _=>n-(intOf i).toNat)
 case atStart=>exact⟨0,Nat.zero_le _,rfl,Ab (AE.nil _ _),Ab (Below.refl _ _)⟩
 case round=>
  rename_i wr;obtain⟨k,O,rfl,u,o⟩:=hrel;by_cases q:k<n
  ·obtain⟨b,off,rfl,I⟩:=(h.below (Aa o)).at q
   have j:=I k q;have E:=Ab C;have D:=Ab (z.below (Aa o));have K:(k:Int)<(n:Int):=by omega
   clear I h C z;go_wp2_with fail;refine(Vc y m H vs k _ (Aa D) N (by omega)).mono ?_;rintro e w1 ⟨rfl,g⟩;have f:=Ab ((Aa u).below g);have d:=Ab (Ad (Aa o) g);clear u o g D j;cases J:Ai vs k
   ·rw[<-QQ (ss:=ss) J]at f
    go_wp2;go_roundw
    case rel=>exact⟨k+1,by omega,by go_num,f,d⟩
    case measure=>simp[intOf];omega
   ·go_wp2_with fail
    refine(MM _ _ _ w.heap.size _ (Aa f) (Aa d).size (PM ss vs (Aa E) k) ((Aa E).get k)).mono ?_;rintro e w2 ⟨Q,rfl,l,p⟩;rw[<-Xh J]at l;have x:=Ab l;have s:=Ab ((Aa d).trans p);clear l p f d;go_wp2;go_roundw
    case rel=>exact⟨k+1,by omega,by go_num,x,s⟩
    case measure=>simp[intOf];omega
  ·have A:k=n:=by omega
   subst A;have L:=(Aa u).text;clear h C z;go_wp2;go_ret;exact⟨rfl,Aa o⟩
variable {w:World}
theorem As.alloc{a:Option Addr}{n:Nat}{ss:List ByteArray}(h:As w a n ss)(o:Obj):As (w.alloc o) a n ss:=h.below ((Below.refl _ _).alloc (Nat.le_refl _) _)
def DN(ss:List ByteArray)(vs:List Nat)(s:ByteArray):Bool:=LB (Jt (st (Br ss vs ss.length)) s)&&decide (BJ vs ss.length=cnt vs)
theorem fe(ss:List ByteArray)(vs:List Nat)(s:ByteArray):DN ss vs s=true↔LB (Jt (st (Br ss vs ss.length)) s)=true/\∀i,ss.length<=i->Ai vs i=false:=by
 unfold DN;rw[Bool.and_eq_true,decide_eq_true_eq,Pl]
structure RV where
 a:Option Addr
 n:Nat
 c:Nat
 xs:List Nat
 s:ByteArray
def RV.dflt:RV:=⟨none,0,0,[],⟨#[]⟩⟩
def Aj(w:World)(a:Option Addr)(n:Nat)(rs:List RV):Prop:=
 rs.length=n/\(∀i,i<n->RowAt w (rs.getD i .dflt).a (rs.getD i .dflt).n (rs.getD i .dflt).xs)/\(n=0\/∃b off,a=some ⟨b,off,none⟩/\
  ∀i,i<n->w.cell? ⟨b,off+i*2,none⟩=some (.slice (rs.getD i .dflt).a (rs.getD i .dflt).n (rs.getD i .dflt).c)/\w.cell? ⟨b,off+i*2+1,none⟩=some (.string (rs.getD i .dflt).s))
theorem Aj.at{a:Option Addr}{n:Nat}{rs:List RV}(h:Aj w a n rs){i:Nat}(e:i<n):
  ∃b off,a=some ⟨b,off,none⟩/\∀i,i<n->w.cell? ⟨b,off+i*2,none⟩=some (.slice (rs.getD i .dflt).a (rs.getD i .dflt).n (rs.getD i .dflt).c)/\w.cell? ⟨b,off+i*2+1,none⟩=some (.string (rs.getD i .dflt).s):=by
 rcases h.2.2 with d|d
 ·omega
 ·exact d
theorem Aj.below{w':World}{a:Option Addr}{n:Nat}{rs:List RV}(h:Aj w a n rs)(e:Below w.heap.size w w'):Aj w' a n rs:=by
 refine⟨h.1,fun i c=>(h.2.1 i c).below e,?_⟩;rcases h.2.2 with f|⟨b,off,rfl,d⟩
 ·exact .inl f
 ·exact .inr ⟨b,off,rfl,fun i c=>⟨(e.cell (World.block_lt_of_cell? w _ (d i c).1)).trans (d i c).1,(e.cell (World.block_lt_of_cell? w _ (d i c).2)).trans (d i c).2⟩⟩
def Af(rs:List RV):Prop:=∀i,(rs.getD i .dflt).n<=10/\(rs.getD i .dflt).s.size<=1000
def Ae(w:World)(rs:List RV):Prop:=∀r∈rs,RowAt w r.a r.n r.xs/\r.n<=r.c
theorem Ae.below{w':World}{rs:List RV}(h:Ae w rs)(b:Below w.heap.size w w'):Ae w' rs:=fun r a=>⟨(h r a).1.below b,(h r a).2⟩
theorem Ae.nil(w:World):Ae w []:=fun r a=>by cases a
theorem Ae.append{rs ss:List RV}(h:Ae w rs)(k:Ae w ss):Ae w (rs++ss):=fun r a=>(List.mem_append.1 a).elim (h r) (k r)
theorem Ae.one{r:RV}(h:RowAt w r.a r.n r.xs)(b:r.n<=r.c):Ae w [r]:=fun x d=>by rw[List.mem_singleton.1 d];exact⟨h,b⟩
theorem Ae.get{rs:List RV}(h:Ae w rs){i:Nat}(b:i<rs.length):RowAt w (rs.getD i .dflt).a (rs.getD i .dflt).n (rs.getD i .dflt).xs/\(rs.getD i .dflt).n<=(rs.getD i .dflt).c:=by
 have:=h rs[i] (List.getElem_mem b);rwa[List.getD_eq_getElem?_getD,List.getElem?_eq_getElem b]
variable {xs:List Nat}{r:Option Nat}{w w':World}
theorem Gn(w:World)(r:Option Nat):w.grownBy w r:=⟨rfl,rfl,rfl,Nat.le_refl _,fun _ _ _=>rfl⟩
theorem CN(h:Below w.heap.size w w')(r:Option Nat):w.grownBy w' r:=⟨h.os,h.tape,h.output,h.size,fun k a _=>h.block k a⟩
theorem BD{w1 w2:World}{c:Option Nat}(h:w.grownBy w1 r)(k:w1.grownBy w2 c)(b:c=r\/∀j,c=some j->w.heap.size<=j):w.grownBy w2 r:=by
 refine⟨k.os.trans h.os,k.tape.trans h.tape,k.output.trans h.output,Nat.le_trans h.size k.size,fun j d a=>?_⟩;refine(k.block j (Nat.lt_of_lt_of_le d h.size) fun e=>?_).trans (h.block j d a);rcases b with b|b
 ·exact a (e.trans b)
 ·have:=b j e.symm;omega
theorem CK(h:w.grownBy w' r){B:Nat}(a:B<=w.heap.size)(b:∀k,r=some k->B<=k):Below B w w':=(Below.refl B w).grown h a b
theorem BF(w:World)(g i:Nat)(u:Value):w.grownBy (w.setCell ⟨g,i,none⟩ u) (some g):=
 ⟨rfl,rfl,rfl,by simp[World.setCell],fun k _ a=>Below.heap_setCell _ _ _ _ (fun e=>a (by rw[e]))⟩
theorem JS(h:w.grownBy w' r):w.grownBy w'.drew r:=⟨h.os,h.tape,h.output,h.size,h.block⟩
theorem Own.kept{B:Nat}{v:Value}{row:Option Nat}(h:Own w B v xs)(b:w.grownBy w' row)(a:v.ownBlock=none\/v.ownBlock≠row):Own w' B v xs:=⟨h.1,h.2.kept b a⟩
theorem Own.lt{B:Nat}{v:Value}(h:Own w B v xs){k:Nat}(a:v.ownBlock=some k):B<=k/\k<w.heap.size:=h.2.lt k a
theorem RowAt.kept{a:Option Addr}{n:Nat}{row:Option Nat}(h:RowAt w a n xs)(g:w.grownBy w' row)(d:n=0\/∀e,a=some e->some e.block≠row):RowAt w' a n xs:=by
 refine⟨h.1,h.2.1,?_⟩;rcases h.2.2 with c|⟨b,off,rfl,f⟩
 ·exact .inl c
 ·rcases d with c|d
  ·exact .inl c
  ·exact .inr ⟨b,off,rfl,fun i j=>g.cell (f i j) (d ⟨b,off,none⟩ rfl)⟩
theorem RowAt.lt{a:Option Addr}{n:Nat}(h:RowAt w a n xs):n=0\/∀c,a=some c->c.block<w.heap.size:=by
 rcases h.2.2 with d|⟨b,off,rfl,f⟩
 ·exact .inl d
 ·by_cases d:n=0
  ·exact .inl d
  ·right
   intro c e;simp only[Option.some.injEq]at e;subst e;exact World.block_lt_of_cell? w _ (f 0 (by omega))
theorem GL(g:Nat)(e:TypeId):∀(vs:List Value) (o:Nat) (w:World) (a:Array Value),w.heap[g]? =some (.cells a e (0,0))->
  ∃b,(w.setCells g o vs).heap[g]? =some (.cells b e (0,0))/\b.size=a.size/\∀j,j<a.size->b[j]? =if o<=j/\j<o+vs.length then vs[j-o]? else a[j]?
 |[],o,w,a,h=>⟨a,h,rfl,fun j d=>by rw[if_neg (by simp only[List.length_nil];omega)]⟩
 |v::r,o,w,a,h=>by
  obtain⟨b,i,k,l⟩:=GL g e r (o+1) (w.setCell ⟨g,o,none⟩ v) (a.setIfInBounds o v) (heap_setCell_same w g o a e v h);refine⟨b,i,by simpa using k,fun j d=>?_⟩;rw[l j (by simpa using d)];by_cases f:j=o
  ·subst f
   rw[if_neg (by omega),if_pos (by simp)];simp[d]
  ·by_cases c:o+1<=j/\j<o+1+r.length
   ·rw[if_pos c,if_pos (by simp;omega)]
    rw[show j-o=(j-(o+1))+1 by omega,List.getElem?_cons_succ]
   ·rw[if_neg c,if_neg (by simp;omega)]
    rw[Array.getElem?_setIfInBounds_ne (by omega)]
theorem GK(g:Nat):∀(vs:List Value) (o:Nat) (w:World),w.grownBy (w.setCells g o vs) (some g)
 |[],o,w=>Gn _ _
 |v::r,o,w=>BD (BF w g o v) (GK g r (o+1) _) (.inl rfl)
end Go.Proofs.YtfpmnekaockodaaGreatDoor
