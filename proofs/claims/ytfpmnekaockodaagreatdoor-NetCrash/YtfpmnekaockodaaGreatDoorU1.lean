/- Laws for the proof. -/
import Derived.Test.YtfpmnekaockodaaGreatDoorU0
import Derived.Deep.QuietTactic
import Derived.OwnWalk
import Derived.Laws.IdiomCopy
import Derived.Laws.NewBlocks
import Derived.Deep.RegionLaw
import Derived.Laws.Bits128
set_option linter.all false
open Go.Proofs.Tryz
open Go.Proofs.Tryz renaming prog->U
open Go renaming World->α,Calls->ο,Value->ψ
open Go.Ending renaming returned->β
open Go.IntKind renaming wrap_u64->γ,i64->ς,u64->ω
open Go.Value renaming slice->δ,string->ε,int->μ,bool->Β
open Go.World renaming block_lt_of_cell?->ζ
open List renaming getD_eq_getElem?_getD->η,getElem?_eq_getElem->ρ,take_of_length_le->φ
open Go.RowKit renaming Below->θ
open Option renaming some->ι,none->ν
open Nat renaming le_refl->κ,testBit_two_pow_mul_add->ξ,zero_le->σ,and_le_right->τ,le_trans->υ,testBit_and->χ,pow_lt_pow_right->Α,xor_lt_two_pow->Γ,add_comm->Δ,pow_succ->Ε,mul_comm->Ζ
open Go.RowKit.Below renaming refl->π
namespace Go.Proofs.YtfpmnekaockodaaGreatDoor
open Go.RowKit Go.Sort
set_option maxRecDepth 4000
set_option maxHeartbeats 8000000
def Hj(a:Option Addr)(n c:Nat)(xs:List Nat)(w:α)(h:RowAt w a n xs)(D:n*8<=140737488351232):
  ο U 253 #[δ a n c] w fun e w'=> ∃v,e=β v/\Own w' w.heap.size v xs/\θ w.heap.size w w':=by
 have g:=fun wx=>Lib.run_eql_slice_nil (P:=U) wx 40 265 a n c 0 0 underlying40;obtain⟨C,y,j,l,m⟩:=info_parts KX;cases a with
 |none=>
  have i:n=0:=by
   rcases h.2.2 with i|⟨b,off,x,_⟩
   ·exact i
   ·cases x
  subst i;have A:xs=[]:=List.eq_nil_of_length_eq_zero h.1;subst A;go_enter func253,ntmps253;go_wp2;go_ret;exact⟨_,rfl,Own.nil _ _,π _ _⟩
 |some u=>
  go_enter func253,ntmps253;go_wp2_with (first|(at_builtin;refine wpList_append_own _ rfl (.tmp 5) (.tmp 6) 40 rfl w.heap.size 265 C (μ ω 0) 1 8 underlying40 y j l m rfl (by decide) _ _ _ rfl (World.ownsRow_lit _ #[] 0 (κ _) (by decide) rfl) u n c (cellsU xs) rfl ?c0 ?c1 ?c2 ?c3 ?c4 ?c5 ?_))
  case c0=>rw[NL,h.1,Nat.mul_one]
  case c1=>exact(h.below ((π _ _).alloc (κ _) _)).news
  case c2=>exact So xs
  case c3=>unfold maxLen;omega
  case c4=>omega
  case c5=>simp
  intro v' w1 f d _;have o:θ w.heap.size w w1:=((π _ _).alloc (κ _) _).grown d (by simp) (fun k z=>by simp[Value.ownBlock]at z;omega);have p:Own w1 w.heap.size v' xs:=⟨h.2.1,by rw[h.1];simpa using f⟩;have s:=Ab p;have q:=Ab o;clear f d o p g h;go_wp2;go_ret;exact⟨_,rfl,Aa s,Aa q⟩
def LY(a:Option Addr)(n c:Nat)(i:Int)(b:0<=i)(d:i<=9223372036854775807)(w:α):
  ο U 268 #[δ a n c,μ ς i] w fun e w'=>e=β (Β (decide (i/64<(n:Int))))/\w'=w:=by
 go_enter func268,ntmps268;go_wp2;go_ret;exact⟨rfl,rfl⟩
def SX(a:Option Addr)(n c:Nat)(i:Int)(b:i<0)(w:α):
  ο U 268 #[δ a n c,μ ς i] w fun e w'=>e=β (Β false)/\w'=w:=by
 have d:decide (0<=i)=false:=by simp;omega
 go_enter func268,ntmps268;go_wp2;go_ret;exact⟨rfl,rfl⟩
def PB(i:Int):IntKind.u64.wrap (2^(i%64).toNat)=((2^(i%64).toNat:Nat):Int):=by
 have h:(i%64).toNat<64:=by omega
 have b:2^(i%64).toNat<2^64:=Α (by decide) h;rw[γ];have a:((2:Int)^(i%64).toNat)=((2^(i%64).toNat:Nat):Int):=by simp
 rw[a];exact Int.emod_eq_of_lt (Int.natCast_nonneg _) (by omega)
def Wj(i:Int)(a:0<=i)(b:i<=9223372036854775807)(w:α):
  ο U 269 #[μ ς i] w fun e w'=>e=β (μ ω ((2^(i%64).toNat:Nat):Int))/\w'=w:=by
 go_enter func269,ntmps269;go_wp2;go_ret;exact⟨Cu (PB i),rfl⟩
def Yo(x:Nat)(i:Int)(a:x<18446744073709551616):(bits .and ω (x:Int) ((2^(i%64).toNat:Nat):Int) !=0)=x.testBit (i%64).toNat:=by
 have h:(i%64).toNat<64:=by omega
 have b:2^(i%64).toNat<2^64:=Α (by decide) h;rw[u64_and_nat x _ a (by omega),nat_bit,Nat.testBit_eq_decide_div_mod_eq];have hp:0<2^(i%64).toNat:=Nat.pow_pos (by decide);rcases Nat.mod_two_eq_zero_or_one (x/2^(i%64).toNat)with e|e
 ·rw[e];simp
 ·rw[e]
  rw[bne_iff_ne.2 (by omega)];simp
def Zy(a:Option Addr)(n c:Nat)(i:Int)(w:α)(j:i<=9223372036854775807)(k:i<0\/(n:Int)<=i/64):
  ο U 238 #[δ a n c,μ ς i] w fun e w'=>e=β (Β false)/\∃d,w'=w.drewN d:=by
 have b:∀wx:α,ο U 268 #[δ a n c,μ ς i] wx fun e w'=>e=β (Β false)/\w'=wx:=by
  by_cases g:0<=i
  ·have h:decide (i/64<(n:Int))=false:=by simp;omega
   intro wx;have:=LY a n c i g j wx;rwa[h]at this
  ·exact fun wx=>SX a n c i (by omega) wx
 have f:=Ab b;clear b;go_enter func238,ntmps238;go_wp2_with fail;go_quiet ((go_at_call 268;exact Calls.quiet_of_same (Aa f _)));go_wp2;go_ret;exact⟨rfl,_,rfl⟩
def aM(a:Option Addr)(n c:Nat)(xs:List Nat)(i:Int)(w:α)(h:RowAt w a n xs)(j:0<=i)(o:i<=9223372036854775807)(y:i/64<(n:Int))(z:n*8<=140737488351232):
  ο U 238 #[δ a n c,μ ς i] w fun e w'=>e=β (Β (Ah xs i.toNat))/\∃d,w'=w.drewN d:=by
 obtain⟨b,off,rfl,l⟩:=h.at (i:=(i/64).toNat) (by omega);have g:=l (i/64).toNat (by omega);have f:=Yo (xs.getD (i/64).toNat 0) i (h.2.1.get _);have s:=Ab f;have hW:∀wx:α,ο U 268 #[δ (ι ⟨b,off,ν⟩) n c,μ ς i] wx fun e w'=>e=β (Β true)/\w'=wx:=by
  intro wx;have:=LY (ι ⟨b,off,ν⟩) n c i j o wx;rwa[show decide (i/64<(n:Int))=true by simp;omega]at this
 have u:=Ab hW;have k:=fun wx=>Wj i j o wx;have q:=Ab k;have m:Ah xs i.toNat=(xs.getD (i/64).toNat 0).testBit (i%64).toNat:=by
  unfold Ah;rw[show i.toNat/64=(i/64).toNat by omega,show i.toNat%64=(i%64).toNat by omega]
 have p:=Ab m;generalize xs.getD (i/64).toNat 0=x at*;clear f hW k m l h;go_enter func238,ntmps238;go_wp2_with fail;go_quiet ((first|(go_at_call 268;exact Calls.quiet_of_same (Aa u _))|(go_at_call 269;exact Calls.quiet_of_same (Aa q _))));go_wp2;go_ret;exact⟨B8 ((Aa s).trans (Aa p).symm),_,rfl⟩
def E4(xs:List Nat)(i:Int):Bool:=if i<0 then false else Ah xs i.toNat
def qp{xs:List Nat}{i:Int}(h:¬(0<=i/\i/64<(xs.length:Int))):E4 xs i=false:=by
 unfold E4;split
 ·rfl
 ·exact EV xs _ (by omega)
def W6{xs:List Nat}{i:Int}(h:0<=i):E4 xs i=Ah xs i.toNat:=by
 unfold E4;rw[if_neg (by omega)]
def MR(a:Option Addr)(n c:Nat)(xs:List Nat)(i:Int)(w:α)(h:RowAt w a n xs)(g:n<=1048576)(f:i<=9223372036854775807):
  ο U 238 #[δ a n c,μ ς i] w fun e w'=>e=β (Β (E4 xs i))/\∃d,w'=w.drewN d:=by
 by_cases b:0<=i/\i/64<(xs.length:Int)
 ·rw[W6 b.1]
  exact aM a n c xs i w h b.1 f (by rw[<-h.1];exact b.2) (by omega)
 ·rw[qp b]
  exact Zy a n c i w f (by rw[<-h.1];omega)
def MA(xs:List Nat)(k:Nat):E4 xs (k:Int)=Ah xs k:=by rw[W6 (by omega),Int.toNat_natCast]
def Vm(a:Option Addr)(n c:Nat)(xs:List Nat)(k:Nat)(w:α)(h:RowAt w a n xs)(b:n<=1048576)(f:k<=9223372036854775807):
  ο U 238 #[δ a n c,μ ς (k:Int)] w fun e w'=>e=β (Β (Ah xs k))/\θ w.heap.size w w':=by
 refine(MR a n c xs k w h b (by omega)).mono ?_;rintro e w' ⟨rfl,d,rfl⟩;rw[MA];exact⟨rfl,below_drewN (π _ _) d⟩
def bM(a b:ByteArray)(w:α)(h:a.size<=1048576)(k:b.size<=1048576):
  ο U 315 #[ε a,ε b] w fun e w'=>e=β (ε (Ju a b))/\θ w.heap.size w w':=by
 go_enter func315,ntmps315;go_wp2_with fail;refine(ML _ [] a w.heap.size w (AB.nil _ _) (κ _) (by simp) h).mono ?_;rintro e w1 ⟨v,rfl,g,f⟩;rw[PC]at g;go_wp2_with fail;refine(ML v (tx a) b w.heap.size w1 g f.size (by rw[AR];exact h) k).mono ?_;rintro e w2 ⟨l,rfl,d,c⟩;have j:=d.text;have i:=Ab (f.trans c);clear g f d c;go_wp2;go_ret;exact⟨rfl,Aa i⟩
def Lz(s:ByteArray):Bool:=(tx s).all fun x=>x==0
def nU(s:ByteArray):Lz s=true↔∀i,(tx s).getD i 0=0:=by
 rw[<-Kk];simp[Lz]
def Bp(vs:List Nat):Nat->Nat
 |0=>0
 |k+1=>Bp vs k+if Ah vs k then 1 else 0
def Qf(vs:List Nat):∀k,Bp vs k<=k
 |0=>κ _
 |k+1=>by
  have:=Qf vs k;unfold Bp;split<;>omega
def O6(vs:List Nat)(n:Nat):∀d,Bp vs n<=Bp vs (n+d)
 |0=>κ _
 |d+1=>by
  have:=O6 vs n d;show _<=Bp vs (n+d)+_;omega
def O7(vs:List Nat)(n:Nat)(h:∀i,n<=i->Ah vs i=false):∀d,Bp vs (n+d)=Bp vs n
 |0=>rfl
 |d+1=>by
  show Bp vs (n+d)+(if Ah vs (n+d)then 1 else 0)=_;rw[O7 vs n h d,h (n+d) (by omega)];simp
def nr(vs:List Nat)(n d i:Nat)(f:n<=i)(g:i<n+d)(e:Ah vs i=true):Bp vs n<Bp vs (n+d):=by
 have a:=O6 vs n (i-n);have b:=O6 vs (i+1) (n+d-(i+1));rw[show n+(i-n)=i from by omega]at a;rw[show i+1+(n+d-(i+1))=n+d from by omega]at b;have c:Bp vs (i+1)=Bp vs i+1:=by simp[Bp,e]
 omega
def Ib(x:Nat):Nat->Nat
 |0=>0
 |f+1=>Ib x f+if x.testBit f then 1 else 0
def Xo(x:Nat):∀f,Ib x (f+1)=x%2+Ib (x/2) f
 |0=>by
  have:x.testBit 0=decide (x%2=1):=Nat.testBit_zero x;simp only[Ib,this];by_cases h:x%2=1
  ·simp[h]
  ·simp[h];omega
 |f+1=>by
  have e:x.testBit (f+1)=(x/2).testBit f:=by rw[Nat.testBit_succ]
  show Ib x (f+1)+(if x.testBit (f+1)then 1 else 0)=x%2+(Ib (x/2) f+if (x/2).testBit f then 1 else 0);rw[Xo x f,e];omega
def Wy:∀f x,CN f x=Ib x f
 |0,x=>rfl
 |f+1,x=>by
  rw[Xo,<-Wy f (x/2)];rfl
def Kt(x:Nat)(xs:List Nat)(i:Nat)(h:i<64):Ah (x::xs) i=x.testBit i:=by
 unfold Ah;rw[show i/64=0 from by omega,show i%64=i from by omega];rfl
def LI(x:Nat)(xs:List Nat)(i:Nat):Ah (x::xs) (64+i)=Ah xs i:=by
 unfold Ah;rw[show(64+i)/64=i/64+1 from by omega,show(64+i)%64=i%64 from by omega];rfl
def Uu(x:Nat)(xs:List Nat):∀f,f<=64->Bp (x::xs) f=Ib x f
 |0,_=>rfl
 |f+1,h=>by
  show Bp (x::xs) f+_=Ib x f+_;rw[Uu x xs f (by omega),Kt x xs f (by omega)]
def Uv(x:Nat)(xs:List Nat):∀k,Bp (x::xs) (64+k)=pop x+Bp xs k
 |0=>by rw[Nat.add_zero,Uu x xs 64 (κ _)];unfold pop;rw[Wy];rfl
 |k+1=>by
  show Bp (x::xs) (64+k)+(if Ah (x::xs) (64+k)then 1 else 0)=pop x+(Bp xs k+if Ah xs k then 1 else 0);rw[Uv x xs k,LI];omega
def Mw:∀xs,cnt xs=Bp xs (64*xs.length)
 |[]=>rfl
 |x::xs=>by
  rw[Mu,List.length_cons,show 64*(xs.length+1)=64+64*xs.length from by omega,Uv,Mw xs]
def Ps(vs:List Nat)(n:Nat):Bp vs n=cnt vs↔∀i,n<=i->Ah vs i=false:=by
 rw[Mw];constructor
 ·intro h i a
  by_cases c:i<64*vs.length
  ·cases b:Ah vs i with
   |false=>rfl
   |true=>
    have:=nr vs n (64*vs.length-n) i a (by omega) b;rw[show n+(64*vs.length-n)=64*vs.length from by omega]at this;omega
  ·exact EV vs i (by omega)
 ·intro h
  by_cases c:n<=64*vs.length
  ·have:=O7 vs n h (64*vs.length-n)
   rw[show n+(64*vs.length-n)=64*vs.length from by omega]at this;omega
  ·have:=O7 vs (64*vs.length) (fun i a=>EV vs i a) (n-64*vs.length)
   rw[show 64*vs.length+(n-64*vs.length)=n from by omega]at this;omega
def mN(a b:List Nat)(i:Nat):Ah (xorL a b) i=(Ah a i^^Ah b i):=by
 unfold Ah;rw[Do,Nat.testBit_xor]
def Vl(i:Nat):Ah [] i=false:=EV [] i (by simp)
variable {ss:List ByteArray}{B:Nat}{v:ψ}{w:α}
def AG(w:α)(a:Option Addr)(n:Nat)(ss:List ByteArray):Prop:=
 ss.length=n/\(n=0\/∃b off,a=ι ⟨b,off,ν⟩/\∀i,i<n->w.cell? ⟨b,off+i,ν⟩=ι (ε (ss.getD i ByteArray.empty)))
def AG.at{a:Option Addr}{n:Nat}(h:AG w a n ss){i:Nat}(d:i<n):
  ∃b off,a=ι ⟨b,off,ν⟩/\∀i,i<n->w.cell? ⟨b,off+i,ν⟩=ι (ε (ss.getD i ByteArray.empty)):=by
 rcases h.2 with c|c
 ·omega
 ·exact c
def AG.below{w':α}{a:Option Addr}{n:Nat}(h:AG w a n ss)(f:θ w.heap.size w w'):AG w' a n ss:=by
 refine⟨h.1,?_⟩;rcases h.2 with e|⟨b,off,rfl,c⟩
 ·exact .inl e
 ·exact .inr ⟨b,off,rfl,fun i d=>(f.cell (ζ w _ (c i d))).trans (c i d)⟩
def shorts(ss:List ByteArray):Prop:=∀s∈ss,s.size<=1048576
def shorts.get(h:shorts ss)(i:Nat):(ss.getD i ByteArray.empty).size<=1048576:=by
 rw[η];cases a:ss[i]? with
 |none=>simp
 |some x=>exact h x (List.mem_of_getElem? a)
def Mb:(Tryz.prog.info? 9).map (fun i=>(i.zero,i.size,i.bytes))=ι (ι (ε ByteArray.empty),1,16):=by kernel_rfl
def BE(ss:List ByteArray):List ψ:=ss.map Value.string
def dw(ss:List ByteArray):(BE ss).length=ss.length:=by simp[BE]
def Sn(ss:List ByteArray)(i:Nat)(h:i<ss.length):(BE ss)[i]? =ι (ε (ss.getD i ByteArray.empty)):=by
 simp[BE,ρ h,η]
def Ar(w:α)(B:Nat)(v:ψ)(ss:List ByteArray):Prop:=w.ownsRow B 9 1 v ss.length (BE ss)
def Ar.nil(w:α)(B:Nat):Ar w B (δ none 0 0) []:=World.ownsRow_nil _ _ _ _
def Ar.texts(h:Ar w B v ss):∃a c,v=δ a ss.length c/\AG w a ss.length ss:=by
 have e:w.ownsRow B 9 1 v ss.length (BE ss):=h;rcases h.2 with⟨rfl,b⟩|⟨g,cap,d,rfl,k,l,n,m,j,ht⟩
 ·exact⟨ν,0,by rw[b],rfl,.inl b⟩
 ·refine⟨_,cap,rfl,rfl,.inr ⟨g,0,rfl,fun i f=>?_⟩⟩
  rw[Nat.zero_add,e.cellAt i (by omega),Sn ss i f]
def Ar.mono{B':Nat}(h:Ar w B v ss)(d:B'<=B):Ar w B' v ss:=by
 refine⟨h.1,?_⟩;rcases h.2 with b|⟨g,cap,a,c,e,r⟩
 ·exact .inl b
 ·exact .inr ⟨g,cap,a,c,υ d e,r⟩
def Ar.below{w':α}(h:Ar w B v ss)(e:θ w.heap.size w w'):Ar w' B v ss:=by
 refine⟨h.1,?_⟩;rcases h.2 with c|⟨g,cap,b,d,f,a,r⟩
 ·exact .inl c
 ·exact .inr ⟨g,cap,b,d,f,(e.block g (Array.getElem?_eq_some_iff.1 a).1).trans a,r⟩
def RM{ops:Array Oper}{rest:List Oper}{o:Oper}{act:Act}{Q:Exit->Act->α->Prop}(e:o.guard=ν)(s x:Operand)
  (A:o.op=.call {callee:=.builtin .append,args:=#[s,x],argTypes:=#[66,66]}) (B:Nat) (v:ψ) (ss:List ByteArray) (t:ByteArray)
  (C:act.eval s=v) (E:act.eval x=δ (ι ⟨w.heap.size,0,ν⟩) 1 1) (h:Ar w B v ss) (d:B<=w.heap.size) (I:ss.length<=1048576)
  (p:∀n w',Ar w' B n (ss++[t])->θ B w w'->wpList U ops Q rest (act.put o.dst n) w'):wpList U ops Q (o::rest) act (w.alloc (.cells #[ε t] 9)):=by
 obtain⟨H,y,f,g,i⟩:=info_parts Mb;have c:θ w.heap.size w (w.alloc (.cells #[ε t] 9)):=(π _ _).alloc (κ _) _;have l:(w.alloc (.cells #[ε t] 9)).ownsRow B 9 1 v ss.length (BE ss):=h.below c
 refine wpList_append_own _ e s x 66 A B 9 H (ε ByteArray.empty) 1 16 underlying66 y f g i rfl (by decide) v ss.length (BE ss) C l ⟨w.heap.size,0,ν⟩ 1 1 [ε t] E rfl (fun j u m=>?_)
  (fun u D=>by rw[List.mem_singleton.1 D];rfl) (by unfold maxLen;omega) (by omega) (υ d c.size) ?_
 ·match j with
  |0=>
   have q:(w.alloc (.cells #[ε t] 9)).cell? ⟨w.heap.size,0,ν⟩=ι (ε t):=by rw[World.cell?_alloc_at _ _ _ _ rfl];rfl
   simpa [Addr.add,q]using m
  |j+1=>simp at m
 ·intro v' w' a b _
  refine p v' w' ?_ ((c.mono d).grown b (υ d c.size) fun k z=>(l.lt k z).1);rw[show BE ss++[ε t]=BE (ss++[t]) by simp[BE]]at a;show w'.ownsRow B 9 1 v' (ss++[t]).length (BE (ss++[t]));rw[List.length_append];exact a
def Ct(ss:List ByteArray):List Nat:=ss.foldl (fun a s=>xorL a (tx s)) []
def oS(ss:List ByteArray)(k:Nat)(h:k<ss.length):Ct (ss.take (k+1))=xorL (Ct (ss.take k)) (tx (ss.getD k ByteArray.empty)):=by
 unfold Ct;rw[List.take_succ_eq_append_getElem h,List.foldl_append];simp[η,ρ h]
def fe(ss:List ByteArray):∀a,bytes a->bytes (ss.foldl (fun a s=>xorL a (tx s)) a):=by
 induction ss with
 |nil=>exact fun a h=>h
 |cons s ss b=>exact fun a h=>b _ (Od h (Cg s))
def kG(ss:List ByteArray):bytes (Ct ss):=fe ss [] Jy
def mI(ss:List ByteArray)(c:shorts ss):∀a:List Nat,a.length<=1048576->(ss.foldl (fun a s=>xorL a (tx s)) a).length<=1048576:=by
 induction ss with
 |nil=>exact fun a h=>h
 |cons s ss d=>
  intro a h;refine d (fun s b=>c s (List.mem_cons_of_mem _ b)) _ ?_;rw[BS,AR];have:=c s List.mem_cons_self;omega
def XL(ss:List ByteArray)(a:shorts ss)(k:Nat):(Ct (ss.take k)).length<=1048576:=mI _ (fun s h=>a s (List.mem_of_mem_take h)) [] (by simp)
def Xx{xs:List Nat}(h:bytes xs):(st xs).size=xs.length:=by rw[<-AR,Dv h]
def Xn(a:Option Addr)(n c:Nat)(ss:List ByteArray)(w:α)(h:AG w a n ss)(s:shorts ss)(C:n<=1048576):
  ο U 291 #[δ a n c] w fun e w'=>e=β (ε (st (Ct ss)))/\θ w.heap.size w w':=by
 go_enter func291,ntmps291;go_wp2;go_loopw [3,8] (fun v i wr=> ∃k:Nat,k<=n/\i=μ ς k/\Hid (AB wr w.heap.size v (Ct (ss.take k)))/\Hid (θ w.heap.size w wr)) (fun _ i _=>n-(intOf i).toNat)
 case atStart=>exact⟨0,σ _,rfl,Ab (AB.nil _ _),Ab (π _ _)⟩
 case round=>
  rename_i wr;obtain⟨k,A,rfl,o,j⟩:=hrel;by_cases f:k<n
  ·obtain⟨b,off,rfl,x⟩:=(h.below (Aa j)).at f
   have d:=x k f;have H:=Ab h;have u:=Ab s;have z:(k:Int)<(n:Int):=by omega
   clear x h s;go_wp2_with fail;refine(ML _ _ _ w.heap.size _ (Aa o) (Aa j).size (XL ss (Aa u) k) ((Aa u).get k)).mono ?_;rintro e w1 ⟨D,rfl,g,l⟩;rw[<-oS ss k (by rw[(Aa H).1];exact f)]at g;have p:=Ab g;have m:=Ab ((Aa j).trans l);clear g l o j d;go_wp2;go_roundw
   case rel=>exact⟨k+1,by omega,by go_num,p,m⟩
   case measure=>simp[intOf];omega
  ·have q:=(Aa o).text
   have y:ss.take k=ss:=φ (by rw[h.1];omega);rw[y]at q;clear h s y;go_wp2;go_ret;exact⟨rfl,Aa j⟩
def Bl(ss:List ByteArray)(vs:List Nat):Nat->List Nat
 |0=>[]
 |k+1=>if Ah vs k then xorL (Bl ss vs k) (tx (ss.getD k ByteArray.empty))else Bl ss vs k
def I4(ss:List ByteArray)(vs:List Nat):∀k,bytes (Bl ss vs k)
 |0=>Jy
 |k+1=>by
  unfold Bl;split
  ·exact Od (I4 ss vs k) (Cg _)
  ·exact I4 ss vs k
def PX(ss:List ByteArray)(vs:List Nat)(a:shorts ss):∀k,(Bl ss vs k).length<=1048576
 |0=>by simp[Bl]
 |k+1=>by
  unfold Bl;have:=PX ss vs a k;split
  ·rw[BS,AR];have:=a.get k;omega
  ·exact this
def Xg{vs:List Nat}{k:Nat}(h:Ah vs k=true):Bl ss vs (k+1)=xorL (Bl ss vs k) (tx (ss.getD k ByteArray.empty)):=by simp[Bl,h]
def QD{vs:List Nat}{k:Nat}(h:Ah vs k=false):Bl ss vs (k+1)=Bl ss vs k:=by simp[Bl,h]
def QE(a:Option Addr)(n c:Nat)(ss:List ByteArray)(y:Option Addr)(m H:Nat)(vs:List Nat)(w:α)(h:AG w a n ss)(C:shorts ss)(P:n<=1048576)(z:RowAt w y m vs)(N:m<=1048576):
  ο U 198 #[δ a n c,δ y m H] w fun e w'=>e=β (ε (st (Bl ss vs n)))/\θ w.heap.size w w':=by
 go_enter func198,ntmps198;go_wp2;go_loopw [5,10] (fun v i wr=> ∃k:Nat,k<=n/\i=μ ς k/\Hid (AB wr w.heap.size v (Bl ss vs k))/\Hid (θ w.heap.size w wr)) (fun _ i _=>n-(intOf i).toNat)
 case atStart=>exact⟨0,σ _,rfl,Ab (AB.nil _ _),Ab (π _ _)⟩
 case round=>
  rename_i wr;obtain⟨k,O,rfl,u,o⟩:=hrel;by_cases q:k<n
  ·obtain⟨b,off,rfl,I⟩:=(h.below (Aa o)).at q
   have j:=I k q;have E:=Ab C;have D:=Ab (z.below (Aa o));have K:(k:Int)<(n:Int):=by omega
   clear I h C z;go_wp2_with fail;refine(Vm y m H vs k _ (Aa D) N (by omega)).mono ?_;rintro e w1 ⟨rfl,g⟩;have f:=Ab ((Aa u).below g);have d:=Ab (Ad (Aa o) g);clear u o g D j;cases J:Ah vs k
   ·rw[<-QD (ss:=ss) J]at f
    go_wp2;go_roundw
    case rel=>exact⟨k+1,by omega,by go_num,f,d⟩
    case measure=>simp[intOf];omega
   ·go_wp2_with fail
    refine(ML _ _ _ w.heap.size _ (Aa f) (Aa d).size (PX ss vs (Aa E) k) ((Aa E).get k)).mono ?_;rintro e w2 ⟨Q,rfl,l,p⟩;rw[<-Xg J]at l;have x:=Ab l;have s:=Ab ((Aa d).trans p);clear l p f d;go_wp2;go_roundw
    case rel=>exact⟨k+1,by omega,by go_num,x,s⟩
    case measure=>simp[intOf];omega
  ·have A:k=n:=by omega
   subst A;have L:=(Aa u).text;clear h C z;go_wp2;go_ret;exact⟨rfl,Aa o⟩
variable {w:α}
def DK(ss:List ByteArray)(vs:List Nat)(s:ByteArray):Bool:=Lz (Ju (st (Bl ss vs ss.length)) s)&&decide (Bp vs ss.length=cnt vs)
def jC(ss:List ByteArray)(vs:List Nat)(s:ByteArray):DK ss vs s=true↔Lz (Ju (st (Bl ss vs ss.length)) s)=true/\∀i,ss.length<=i->Ah vs i=false:=by
 unfold DK;rw[Bool.and_eq_true,decide_eq_true_eq,Ps]
structure RV where
 a:Option Addr
 n:Nat
 c:Nat
 xs:List Nat
 s:ByteArray
def RV.dflt:RV:=⟨ν,0,0,[],⟨#[]⟩⟩
def Aj(w:α)(a:Option Addr)(n:Nat)(rs:List RV):Prop:=
 rs.length=n/\(∀i,i<n->RowAt w (rs.getD i .dflt).a (rs.getD i .dflt).n (rs.getD i .dflt).xs)/\(n=0\/∃b off,a=ι ⟨b,off,ν⟩/\
  ∀i,i<n->w.cell? ⟨b,off+i*2,ν⟩=ι (.slice (rs.getD i .dflt).a (rs.getD i .dflt).n (rs.getD i .dflt).c)/\w.cell? ⟨b,off+i*2+1,ν⟩=ι (ε (rs.getD i .dflt).s))
def Aj.at{a:Option Addr}{n:Nat}{rs:List RV}(h:Aj w a n rs){i:Nat}(e:i<n):
  ∃b off,a=ι ⟨b,off,ν⟩/\∀i,i<n->w.cell? ⟨b,off+i*2,ν⟩=ι (.slice (rs.getD i .dflt).a (rs.getD i .dflt).n (rs.getD i .dflt).c)/\w.cell? ⟨b,off+i*2+1,ν⟩=ι (ε (rs.getD i .dflt).s):=by
 rcases h.2.2 with d|d
 ·omega
 ·exact d
def Aj.below{w':α}{a:Option Addr}{n:Nat}{rs:List RV}(h:Aj w a n rs)(e:θ w.heap.size w w'):Aj w' a n rs:=by
 refine⟨h.1,fun i c=>(h.2.1 i c).below e,?_⟩;rcases h.2.2 with f|⟨b,off,rfl,d⟩
 ·exact .inl f
 ·exact .inr ⟨b,off,rfl,fun i c=>⟨(e.cell (ζ w _ (d i c).1)).trans (d i c).1,(e.cell (ζ w _ (d i c).2)).trans (d i c).2⟩⟩
def Af(rs:List RV):Prop:=∀i,(rs.getD i .dflt).n<=10/\(rs.getD i .dflt).s.size<=1000
def Ae(w:α)(rs:List RV):Prop:=∀r∈rs,RowAt w r.a r.n r.xs/\r.n<=r.c
def Ae.below{w':α}{rs:List RV}(h:Ae w rs)(b:θ w.heap.size w w'):Ae w' rs:=fun r a=>⟨(h r a).1.below b,(h r a).2⟩
def Ae.nil(w:α):Ae w []:=fun r a=>by cases a
def Ae.append{rs ss:List RV}(h:Ae w rs)(k:Ae w ss):Ae w (rs++ss):=fun r a=>(List.mem_append.1 a).elim (h r) (k r)
def Ae.one{r:RV}(h:RowAt w r.a r.n r.xs)(b:r.n<=r.c):Ae w [r]:=fun x d=>by rw[List.mem_singleton.1 d];exact⟨h,b⟩
def Ae.get{rs:List RV}(h:Ae w rs){i:Nat}(b:i<rs.length):RowAt w (rs.getD i .dflt).a (rs.getD i .dflt).n (rs.getD i .dflt).xs/\(rs.getD i .dflt).n<=(rs.getD i .dflt).c:=by
 have:=h rs[i] (List.getElem_mem b);rwa[η,ρ b]
variable {xs:List Nat}{r:Option Nat}{w w':α}
def Gn(w:α)(r:Option Nat):w.grownBy w r:=⟨rfl,rfl,rfl,κ _,fun _ _ _=>rfl⟩
def CD(h:θ w.heap.size w w')(r:Option Nat):w.grownBy w' r:=⟨h.os,h.tape,h.output,h.size,fun k a _=>h.block k a⟩
def Bx{w1 w2:α}{c:Option Nat}(h:w.grownBy w1 r)(k:w1.grownBy w2 c)(b:c=r\/∀j,c=ι j->w.heap.size<=j):w.grownBy w2 r:=by
 refine⟨k.os.trans h.os,k.tape.trans h.tape,k.output.trans h.output,υ h.size k.size,fun j d a=>?_⟩;refine(k.block j (Nat.lt_of_lt_of_le d h.size) fun e=>?_).trans (h.block j d a);rcases b with b|b
 ·exact a (e.trans b)
 ·have:=b j e.symm;omega
def CA(h:w.grownBy w' r){B:Nat}(a:B<=w.heap.size)(b:∀k,r=ι k->B<=k):θ B w w':=(π B w).grown h a b
def Bz(w:α)(g i:Nat)(u:ψ):w.grownBy (w.setCell ⟨g,i,ν⟩ u) (ι g):=
 ⟨rfl,rfl,rfl,by simp[World.setCell],fun k _ a=>Below.heap_setCell _ _ _ _ (fun e=>a (by rw[e]))⟩
def JU(h:w.grownBy w' r):w.grownBy w'.drew r:=⟨h.os,h.tape,h.output,h.size,h.block⟩
def Own.kept{B:Nat}{v:ψ}{row:Option Nat}(h:Own w B v xs)(b:w.grownBy w' row)(a:v.ownBlock=ν\/v.ownBlock≠row):Own w' B v xs:=⟨h.1,h.2.kept b a⟩
def Own.lt{B:Nat}{v:ψ}(h:Own w B v xs){k:Nat}(a:v.ownBlock=ι k):B<=k/\k<w.heap.size:=h.2.lt k a
def RowAt.kept{a:Option Addr}{n:Nat}{row:Option Nat}(h:RowAt w a n xs)(g:w.grownBy w' row)(d:n=0\/∀e,a=ι e->ι e.block≠row):RowAt w' a n xs:=by
 refine⟨h.1,h.2.1,?_⟩;rcases h.2.2 with c|⟨b,off,rfl,f⟩
 ·exact .inl c
 ·rcases d with c|d
  ·exact .inl c
  ·exact .inr ⟨b,off,rfl,fun i j=>g.cell (f i j) (d ⟨b,off,ν⟩ rfl)⟩
def RowAt.lt{a:Option Addr}{n:Nat}(h:RowAt w a n xs):n=0\/∀c,a=ι c->c.block<w.heap.size:=by
 rcases h.2.2 with d|⟨b,off,rfl,f⟩
 ·exact .inl d
 ·by_cases d:n=0
  ·exact .inl d
  ·right
   intro c e;simp only[Option.some.injEq]at e;subst e;exact ζ w _ (f 0 (by omega))
def GK(g:Nat)(e:TypeId):∀(vs:List ψ) (o:Nat) (w:α) (a:Array ψ),w.heap[g]? =ι (.cells a e (0,0))->
  ∃b,(w.setCells g o vs).heap[g]? =ι (.cells b e (0,0))/\b.size=a.size/\∀j,j<a.size->b[j]? =if o<=j/\j<o+vs.length then vs[j-o]? else a[j]?
 |[],o,w,a,h=>⟨a,h,rfl,fun j d=>by rw[if_neg (by simp only[List.length_nil];omega)]⟩
 |v::r,o,w,a,h=>by
  obtain⟨b,i,k,l⟩:=GK g e r (o+1) (w.setCell ⟨g,o,ν⟩ v) (a.setIfInBounds o v) (heap_setCell_same w g o a e v h);refine⟨b,i,by simpa using k,fun j d=>?_⟩;rw[l j (by simpa using d)];by_cases f:j=o
  ·subst f
   rw[if_neg (by omega),if_pos (by simp)];simp[d]
  ·by_cases c:o+1<=j/\j<o+1+r.length
   ·rw[if_pos c,if_pos (by simp;omega)]
    rw[show j-o=(j-(o+1))+1 by omega,List.getElem?_cons_succ]
   ·rw[if_neg c,if_neg (by simp;omega)]
    rw[Array.getElem?_setIfInBounds_ne (by omega)]
def GJ(g:Nat):∀(vs:List ψ) (o:Nat) (w:α),w.grownBy (w.setCells g o vs) (ι g)
 |[],o,w=>Gn _ _
 |v::r,o,w=>Bx (Bz w g o v) (GJ g r (o+1) _) (.inl rfl)
def o1(x:Int):Int:=IntKind.u64.wrap (bits .and ω (x/2) 6148914691236517205+bits .and ω x 6148914691236517205)
def o2(x:Int):Int:=IntKind.u64.wrap (bits .and ω (x/4) 3689348814741910323+bits .and ω x 3689348814741910323)
def o3(x:Int):Int:=bits .and ω (IntKind.u64.wrap (x/16+x)) 1085102592571150095
def o4(x:Int):Int:=IntKind.u64.wrap (x+x/256)
def o5(x:Int):Int:=IntKind.u64.wrap (x+x/65536)
def o6(x:Int):Int:=IntKind.u64.wrap (x+x/4294967296)
def o7(x:Int):Int:=bits .and ς (wrap64 x) 127
def KG(a b m n:Nat)(c:a<256)(d:m<256):(a+256*b)&&&(m+256*n)=(a&&&m)+256*(b&&&n):=by
 have e:a&&&m<2^8:=Nat.lt_of_le_of_lt Nat.and_le_left c;apply Nat.eq_of_testBit_eq;intro i;rw[χ,Δ a,Δ m,Δ (a&&&m),show(256:Nat)=2^8 from rfl];rw[ξ b c,ξ n d,ξ (b&&&n) e];split
 ·rw[χ]
 ·rw[χ]
def rep(m:Nat):Nat->Nat
 |0=>0
 |k+1=>m+256*rep m k
def y8(x:Nat):Nat:=(x/2&&&85)+(x&&&85)
def z8(x:Nat):Nat:=(x/4&&&51)+(x&&&51)
def yk(k x:Nat):Nat:=(x/2&&&rep 85 k)+(x&&&rep 85 k)
def zk(k x:Nat):Nat:=(x/4&&&rep 51 k)+(x&&&rep 51 k)
def gk(k x:Nat):Nat:=(x/16+x)&&&rep 15 k
def bN:∀(a:Fin 256) (c:Fin 2),(a.val/2+128*c.val)&&&85=a.val/2&&&85:=by decide+kernel
def bO:∀(a:Fin 256) (c:Fin 4),(a.val/4+64*c.val)&&&51=a.val/4&&&51:=by decide+kernel
def Rq:∀a:Fin 256,y8 a.val<256:=by decide+kernel
def Rr:∀a:Fin 256,z8 a.val<256/\z8 a.val%16<=6:=by decide+kernel
def aL:∀(a:Fin 256) (c:Fin 7),z8 (y8 a.val)/16+16*c.val+z8 (y8 a.val)<256/\(z8 (y8 a.val)/16+16*c.val+z8 (y8 a.val))&&&15=CN 8 a.val:=by decide+kernel
def XF(k lo a:Nat)(h:lo<256):yk (k+1) (lo+256*a)=y8 lo+256*yk k a:=by
 unfold yk y8;have e:(lo+256*a)/2=(lo/2+128*(a%2))+256*(a/2):=by omega
 have d:=bN ⟨lo,h⟩ ⟨a%2,by omega⟩;simp only at d;rw[e,show rep 85 (k+1)=85+256*rep 85 k from rfl,KG _ _ _ _ (by omega) (by omega),KG _ _ _ _ h (by omega),d];omega
def VN(k lo a:Nat)(h:lo<256):zk (k+1) (lo+256*a)=z8 lo+256*zk k a:=by
 unfold zk z8;have e:(lo+256*a)/4=(lo/4+64*(a%4))+256*(a/4):=by omega
 have d:=bO ⟨lo,h⟩ ⟨a%4,by omega⟩;simp only at d;rw[e,show rep 51 (k+1)=51+256*rep 51 k from rfl,KG _ _ _ _ (by omega) (by omega),KG _ _ _ _ h (by omega),d];omega
def bR:∀k x,zk k x%16<=6
 |0,x=>by simp[zk,rep]
 |k+1,x=>by
  have e:x=x%256+256*(x/256):=by omega
  rw[e,VN k _ _ (by omega)];have:=(Rr ⟨x%256,by omega⟩).2;simp only at this;omega
def qr(k lo a:Nat)(h:lo<256):gk (k+1) (zk (k+1) (yk (k+1) (lo+256*a)))=CN 8 lo+256*gk k (zk k (yk k a)):=by
 rw[XF k lo a h,VN k _ _ (Rq ⟨lo,h⟩)];have c:=bR k (yk k a);generalize zk k (yk k a)=t at*;have d:=aL ⟨lo,h⟩ ⟨t%16,by omega⟩;simp only at d;have b:=(Rr ⟨y8 lo,Rq ⟨lo,h⟩⟩).1;simp only at b;generalize z8 (y8 lo)=s at*;unfold gk;have e:(s+256*t)/16+(s+256*t)=(s/16+16*(t%16)+s)+256*(t/16+t):=by omega
 rw[e,show rep 15 (k+1)=15+256*rep 15 k from rfl,KG _ _ _ _ d.1 (by omega),d.2]
def PH:∀f x,CN f x=CN f (x%2^f)
 |0,x=>rfl
 |f+1,x=>by
  simp only[CN];rw[PH f (x/2),PH f (x%2^(f+1)/2)];have a:x%2^(f+1)%2=x%2:=Nat.mod_mod_of_dvd x ⟨2^f,by rw[Ε,Ζ]⟩;have b:x%2^(f+1)/2=x/2%2^f:=by rw[Ε,Ζ,Nat.mod_mul_right_div_self]
  rw[a,b,Nat.mod_mod]
def Wx:∀a b x,CN (a+b) x=CN a x+CN b (x/2^a)
 |0,b,x=>by simp[CN]
 |a+1,b,x=>by
  rw[show a+1+b=(a+b)+1 by omega];simp only[CN];rw[Wx a b (x/2),Nat.div_div_eq_div_mul,Ε,Ζ 2];omega
def QT:∀k x,∃p:List Nat,p.length=k/\(∀q∈p,q<=8)/\CN (8*k) x=p.sum/\gk k (zk k (yk k x))=p.foldr (fun q s=>q+256*s) 0
 |0,x=>⟨[],rfl,by simp,rfl,by simp[gk,rep]⟩
 |k+1,x=>by
  obtain⟨p,b,c,d,f⟩:=QT k (x/256);refine⟨CN 8 (x%256)::p,by simp[b],?_,?_,?_⟩
  ·intro q a
   rcases List.mem_cons.1 a with rfl|a
   ·exact PY 8 _
   ·exact c q a
  ·rw[show 8*(k+1)=8+8*k by omega,Wx,List.sum_cons,<-d,PH 8 x]
  ·have e:x=x%256+256*(x/256):=by omega
   conv=>lhs;rw[e]
   rw[qr k _ _ (by omega),f];rfl
def dE:rep 85 8=6148914691236517205:=by decide+kernel
def dD:rep 51 8=3689348814741910323:=by decide+kernel
def dC:rep 15 8=1085102592571150095:=by decide+kernel
def bE(x:Nat)(h:x<18446744073709551616):o1 (x:Int)=(yk 8 x:Nat)/\yk 8 x<=12297829382473034410:=by
 unfold o1 yk;rw[dE];have e:((x:Int)/2)=((x/2:Nat):Int):=by omega
 have d:=τ (n:=x/2) (m:=6148914691236517205);have f:=τ (n:=x) (m:=6148914691236517205);have a:=u64_and_nat (x/2) 6148914691236517205 (by omega) (by omega);have b:=u64_and_nat x 6148914691236517205 (by omega) (by omega);have c:((6148914691236517205:Nat):Int)=6148914691236517205:=rfl;rw[c]at a b;rw[e,a,b,γ];omega
def cY(x:Nat)(h:x<18446744073709551616):o2 (x:Int)=(zk 8 x:Nat)/\zk 8 x<=7378697629483820646:=by
 unfold o2 zk;rw[dD];have e:((x:Int)/4)=((x/4:Nat):Int):=by omega
 have d:=τ (n:=x/4) (m:=3689348814741910323);have f:=τ (n:=x) (m:=3689348814741910323);have a:=u64_and_nat (x/4) 3689348814741910323 (by omega) (by omega);have b:=u64_and_nat x 3689348814741910323 (by omega) (by omega);have c:((3689348814741910323:Nat):Int)=3689348814741910323:=rfl;rw[c]at a b;rw[e,a,b,γ];omega
def cZ(x:Nat)(h:x<=7378697629483820646):o3 (x:Int)=(gk 8 x:Nat):=by
 unfold o3 gk;rw[dC];have e:IntKind.u64.wrap ((x:Int)/16+(x:Int))=((x/16+x:Nat):Int):=by rw[γ];omega
 have b:=u64_and_nat (x/16+x) 1085102592571150095 (by omega) (by omega);have c:((1085102592571150095:Nat):Int)=1085102592571150095:=rfl;rw[c]at b;rw[e,b]
def dA(x:Nat)(h:x<9223372036854775808):o7 (x:Int)=((x%128:Nat):Int):=by
 unfold o7;have e:wrap64 (x:Int)=(x:Int):=by unfold wrap64;omega
 rw[e,i64_and127];omega
def pn(P T:Nat)(h:P<=64):(P+256*T)%128=P:=by omega
def dG(A a b:Nat)(c:A=b+256*a)(q:b<=8)(d:A<=600000000000000000):o4 (A:Int)=((A+a:Nat):Int):=by
 unfold o4;rw[γ];omega
def dI(A a b c u u1:Nat)(f:A=u+65536*b)(d:a=u1+65536*c)(q:u<=2056)(h:u1<=2056)(g:A<=600000000000000000)(e:a<=600000000000000000):o5 ((A+a:Nat):Int)=((A+a+b+c:Nat):Int):=by
 unfold o5;rw[γ];omega
def dJ(A a b c d e f g v h i v3:Nat)(p:A=v+4294967296*d)(j:a=h+4294967296*e)(k:b=i+4294967296*f)(l:c=v3+4294967296*g)
  (q:v+h+i+v3<4294967296) (s:A<=600000000000000000) (m:a<=600000000000000000) (n:b<=600000000000000000) (o:c<=600000000000000000):
  o6 ((A+a+b+c:Nat):Int)=((A+a+b+c+(d+e+f+g):Nat):Int):=by
 unfold o6;rw[γ];omega
def nK(n j f a g k o p:Nat)(J:n<=8)(T:j<=8)(V:f<=8)(W:a<=8)(X:g<=8)(Y:k<=8)(Z:o<=8)(q7:p<=8):
  o7 (o6 (o5 (o4 ((n+256*(j+256*(f+256*(a+256*(g+256*(k+256*(o+256*(p+256*0))))))):Nat):Int))))=((n+(j+(f+(a+(g+(k+(o+(p+0))))))):Nat):Int):=by
 obtain⟨m,I⟩:∃m,m=p+256*0:=⟨_,rfl⟩;obtain⟨l,H⟩:∃l,l=o+256*m:=⟨_,rfl⟩;obtain⟨i,E⟩:∃i,i=k+256*l:=⟨_,rfl⟩;obtain⟨h,D⟩:∃h,h=g+256*i:=⟨_,rfl⟩;obtain⟨d,C⟩:∃d,d=a+256*h:=⟨_,rfl⟩;obtain⟨c,z⟩:∃c,c=f+256*d:=⟨_,rfl⟩;obtain⟨b,y⟩:∃b,b=j+256*c:=⟨_,rfl⟩;obtain⟨A,q⟩:∃A,A=n+256*b:=⟨_,rfl⟩;rw[<-I,<-H,<-E,<-D,<-C,<-z,<-y,<-q];have S:m<=8:=by omega
 have R:l<=2056:=by omega
 have Q:i<=526344:=by omega
 have P:h<=134744072:=by omega
 have O:d<=34494482440:=by omega
 have N:c<=8830587504648:=by omega
 have L:b<=2260630401189896:=by omega
 have K:A<=578721382704613384:=by omega
 rw[dG A b n q J (by omega)];have u0:A=(n+256*j)+65536*c:=by omega
 have u1:b=(j+256*f)+65536*d:=by omega
 have u2:c=(f+256*a)+65536*h:=by omega
 have u3:d=(a+256*g)+65536*i:=by omega
 have u4:h=(g+256*k)+65536*l:=by omega
 have u5:i=(k+256*o)+65536*m:=by omega
 rw[dI A b c d _ _ u0 u1 (by omega) (by omega) (by omega) (by omega)];have v0:A=((n+256*j)+65536*(f+256*a))+4294967296*h:=by rw[u0,u2];omega
 have u:b=((j+256*f)+65536*(a+256*g))+4294967296*i:=by rw[u1,u3];omega
 have x:c=((f+256*a)+65536*(g+256*k))+4294967296*l:=by rw[u2,u4];omega
 have v3:d=((a+256*g)+65536*(k+256*o))+4294967296*m:=by rw[u3,u5];omega
 rw[dJ A b c d h i l m _ _ _ _ v0 u x v3 (by omega) (by omega) (by omega) (by omega) (by omega)];clear u0 u1 u2 u3 u4 u5 v0 u x v3;rw[dA _ (by omega)];have e:A+b+c+d+(h+i+l+m)=(n+(j+(f+(a+(g+(k+(o+(p+0))))))))+256*(b+c+d+h+i+l+m):=by omega
 rw[e];have s:n+(j+(f+(a+(g+(k+(o+(p+0)))))))<=64:=by omega
 rw[pn _ _ s];clear e s;omega
def Zj(x:Nat)(h:x<18446744073709551616):o7 (o6 (o5 (o4 (o3 (o2 (o1 (x:Int)))))))=(pop x:Nat):=by
 obtain⟨b,q⟩:=bE x h;obtain⟨c,a⟩:=cY (yk 8 x) (by omega);have d:=cZ (zk 8 (yk 8 x)) a;rw[b,c,d];obtain⟨p,s,hp,f,e⟩:=QT 8 x;rw[e];unfold pop;rw[show(64:Nat)=8*8 from rfl,f]
 match p,s with
 |[g,i,j,k,l,m,n,o],_=>
  have u:=hp g (by simp);have y:=hp i (by simp);have z:=hp j (by simp);have A:=hp k (by simp);have C:=hp l (by simp);have D:=hp m (by simp);have E:=hp n (by simp);have H:=hp o (by simp);clear hp f e b c d q a h;simp only[List.foldr_cons,List.foldr_nil,List.sum_cons,List.sum_nil];exact nK g i j k l m n o u y z A C D E H
def sF(x:Nat)(a:x<18446744073709551616)(w:α):
  ο U 210 #[μ ω (x:Int)] w fun e w'=>e=β (μ ς ((pop x:Nat):Int))/\w'=w:=by
 have H:=Ab (Zj x a);clear a;go_enter func210,ntmps210;go_wp2;go_ret;exact⟨Cu (Aa H),rfl⟩
def Tab(w:α):Prop:=∀i,i<64->w.cell? ⟨2,i,ν⟩=ι (μ .u8 ((Lib.deBruijn64tab.getD i 0:Nat):Int))
def Tab.below{w w':α}(h:Tab w)(b:θ w.heap.size w w'):Tab w':=fun i a=>(b.cell (ζ w _ (h i a))).trans (h i a)
def bI(x:Nat)(a:x≠0)(g:x<18446744073709551616):
  ∃q:Nat,q<64/\Lib.deBruijn64tab.getD q 0=Lib.ctz 64 x/\IntKind.u64.wrap (bits .and ω (x:Int) (IntKind.u64.wrap (-(x:Int)))*285870213051353865)/288230376151711744=(q:Int):=by
 obtain⟨b,c⟩:=Lib.lowest_bit 64 x a (by omega);obtain⟨d,f⟩:=Lib.deBruijn64_at (Lib.ctz 64 x) c;refine⟨_,d,f,?_⟩;have e:IntKind.u64.wrap (-(x:Int))=((2^64-x:Nat):Int):=by rw[γ];omega
 rw[e,u64_and_nat x (2^64-x) g (by omega),b,γ];rw[show((2^Lib.ctz 64 x:Nat):Int)*285870213051353865=((2^Lib.ctz 64 x*285870213051353865:Nat):Int) from by rw[Int.natCast_mul];rfl];generalize 2^Lib.ctz 64 x*285870213051353865=z;omega
def bH(x:Nat)(b:x≠0)(h:x<18446744073709551616)(w:α)(ht:Tab w):
  ο U 262 #[μ ω (x:Int)] w fun e w'=>e=β (μ ς ((Lib.ctz 64 x:Nat):Int))/\w'=w:=by
 have f:((x:Int)==0)=false:=by simp;omega
 obtain⟨q,g,c,i⟩:=bI x b h;have a:=ht q g;rw[c]at a;have d:Lib.ctz 64 x<64:=(Lib.lowest_bit 64 x b (by omega)).2;generalize Lib.ctz 64 x=t at*;clear ht c b;go_enter func262,ntmps262;go_wp2;go_ret;exact⟨rfl,rfl⟩
def GO(a:Option Addr)(n c:Nat)(xs:List Nat)(w:α)(h:RowAt w a n xs)(u:n<=1048576):
  ο U 180 #[δ a n c] w fun e w'=>e=β (μ ς ((cnt xs:Nat):Int))/\w'=w:=by
 go_enter func180,ntmps180;go_wp2;go_loop [3,8] (fun t i=> ∃k:Nat,k<=n/\i=μ ς k/\t=μ ς ((cnt (xs.take k):Nat):Int)) (fun _ i=>n-(intOf i).toNat)
 case atStart=>exact⟨0,σ _,rfl,rfl⟩
 case round=>
  obtain⟨k,q,rfl,rfl⟩:=hrel;by_cases d:k<n
  ·obtain⟨b,off,rfl,g⟩:=h.at d
   have f:=g k d;have o:=h.2.1.get k;have l:=ow xs k (by rw[h.1];exact d);have p:=Le (xs.take k);have j:(xs.take k).length<=k:=List.length_take_le _ _;have hp:=QI (xs.getD k 0);have m:=Ab l;generalize xs.getD k 0=x at*;generalize cnt (xs.take k)=s at*;clear l g h;go_wp2_with (go_at_call 210;refine(sF x o _).mono ?_;rintro e w' ⟨rfl,rfl⟩);go_round
   case rel=>exact⟨k+1,by omega,by go_num,by rw[Aa m];go_num⟩
   case measure=>simp[intOf];omega
  ·go_wp2
   go_ret;exact⟨Cu (by rw[φ (by rw[h.1];omega)]),rfl⟩
def fp(xs:List Nat)(k:Nat)(h:∀j,j<k->xs.getD j 0=0)(a:xs.getD k 0=0):∀j,j<k+1->xs.getD j 0=0:=by
 intro j b;by_cases e:j=k
 ·rw[e];exact a
 ·exact h j (by omega)
def gg(xs:List Nat)(h:∀j,j<xs.length->xs.getD j 0=0):firstI xs= -1:=
 Sg xs ((Kk xs).2 fun i=>by
  by_cases a:i<xs.length
  ·exact h i a
  ·exact Ge (by omega))
def JF(a:Option Addr)(n c:Nat)(xs:List Nat)(w:α)(ht:Tab w)(h:RowAt w a n xs)(A:n<=1048576):
  ο U 222 #[δ a n c] w fun e w'=>e=β (μ ς (firstI xs))/\w'=w:=by
 go_enter func222,ntmps222;go_wp2;go_loop [7] (fun i=> ∃k:Nat,k<=n/\i=μ ς k/\Hid (∀j,j<k->xs.getD j 0=0)) (fun i=>n-(intOf i).toNat)
 case atStart=>exact⟨0,σ _,rfl,Ab (fun j u=>by omega)⟩
 case round=>
  obtain⟨k,z,rfl,m⟩:=hrel;by_cases f:k<n
  ·obtain⟨b,off,rfl,o⟩:=h.at f
   have d:=o k f;have p:=h.2.1.get k;by_cases g:xs.getD k 0=0
   ·rw[g]at d
    have q:=Ab (fp xs k (Aa m) g);clear o h g p ht;go_wp2;go_round
    case rel=>exact⟨k+1,by omega,by go_num,q⟩
    case measure=>simp[intOf];omega
   ·have l:=Ab (Mq xs k (by rw[h.1];exact f) (Aa m) g)
    have s:=(Lib.lowest_bit 64 (xs.getD k 0) g (by omega)).2;have y:(((xs.getD k 0:Nat):Int) !=0)=true:=by rw[bne_iff_ne];omega
    generalize xs.getD k 0=x at*;clear o h;go_wp2_with (go_at_call 262;refine(bH x g p _ ht).mono ?_;rintro e w' ⟨rfl,rfl⟩);go_ret;exact⟨Cu (Aa l).symm,rfl⟩
  ·have l:=Ab (gg xs (fun j u=>Aa m j (by have:=h.1;omega)))
   go_wp2;go_ret;exact⟨Cu (Aa l).symm,rfl⟩
def OR{w wr:α}{B g cap:Nat}{xs a:List Nat}{k:Nat}(i:Ac xs)(j:Ac a)(h:k<xs.length)(e:B<=g)
  (d:Own wr B (δ (ι ⟨g,0,ν⟩) xs.length cap) (Db xs a k)) (f:θ B w wr):
  Own (wr.setCell ⟨g,k,ν⟩ (μ ω ((xs.getD k 0^^^a.getD k 0:Nat):Int))) B (δ (ι ⟨g,0,ν⟩) xs.length cap) (Db xs a (k+1))/\
  θ B w (wr.setCell ⟨g,k,ν⟩ (μ ω ((xs.getD k 0^^^a.getD k 0:Nat):Int))):=by
 have c:=BZ xs a k;rw[<-c]at d;have b:=d.stored k (xs.getD k 0^^^a.getD k 0) (Γ (n:=64) (by have:=i.get k;omega) (by have:=j.get k;omega));rw[SZ xs a k h,c]at b;exact⟨b,f.setCell (by exact e) _⟩
def Jf(a:Option Addr)(n c:Nat)(xs:List Nat)(H:Option Addr)(m O:Nat)(b:List Nat)(w:α)(h:RowAt w a n xs)(j:RowAt w H m b)(V:n<=1048576)(T:m<=1048576):
  ο U 274 #[δ a n c,δ H m O] w fun e w'=> ∃v,e=β v/\Own w' w.heap.size v (xorL xs b)/\θ w.heap.size w w':=by
 obtain rfl:n=xs.length:=h.1.symm;obtain rfl:m=b.length:=j.1.symm;by_cases S:xs.length<b.length
 ·have J:((xs.length:Int)<(b.length:Int)):=by omega
  go_enter func274,ntmps274;go_wp2_with (go_at_call 253;refine(Hj H b.length O b _ j (by omega)).mono ?_;rintro e w1 ⟨v,rfl,D,C⟩);go_loopw [19] (fun i wr=> ∃k:Nat,k<=xs.length/\i=μ ς k/\Hid (Own wr w.heap.size v (Db b xs k))/\Hid (θ w.heap.size w wr)) (fun i _=>xs.length-(intOf i).toNat)
  case atStart=>exact⟨0,σ _,rfl,Ab (by rw[KL];exact D),Ab C⟩
  case round=>
   obtain⟨k,Q,rfl,f,u⟩:=hrel;clear D C;by_cases q:k<xs.length
   ·obtain⟨P,E,rfl,l⟩:=(h.below (Aa u)).at q
    have L:k<b.length:=by omega
    obtain⟨g,cap,rfl,z,K,o,p⟩:=(Aa f).at (by rw[BZ];omega);have s:=l k q;have d:=o k (by rw[BZ];omega);have I:=p k;rw[Hi b xs k k (by omega),if_neg (by omega)]at d;have N:=u64_xor_nat (b.getD k 0) (xs.getD k 0) (j.2.1.get k) (h.2.1.get k);rw[BZ]at f;have R:=Ab (OR j.2.1 h.2.1 (by omega) z (Aa f) (Aa u));rw[BZ];generalize b.getD k 0=x at*;generalize xs.getD k 0=y at*;clear l o p h j f;go_wp2;go_roundw
    case rel=>exact⟨k+1,by omega,by go_num,Ab (Aa R).1,Ab (Aa R).2⟩
    case measure=>simp[intOf];omega
   ·have A:k=xs.length:=by omega
    subst A;rw[KT b xs (by omega)]at f;clear h j;go_wp2;go_ret;exact⟨_,rfl,by rw[KS];exact Aa f,Aa u⟩
 ·have J:¬((xs.length:Int)<(b.length:Int)):=by omega
  go_enter func274,ntmps274;go_wp2_with (go_at_call 253;refine(Hj a xs.length c xs _ h (by omega)).mono ?_;rintro e w1 ⟨v,rfl,D,C⟩);go_loopw [19] (fun i wr=> ∃k:Nat,k<=b.length/\i=μ ς k/\Hid (Own wr w.heap.size v (Db xs b k))/\Hid (θ w.heap.size w wr)) (fun i _=>b.length-(intOf i).toNat)
  case atStart=>exact⟨0,σ _,rfl,Ab (by rw[KL];exact D),Ab C⟩
  case round=>
   obtain⟨k,Q,rfl,f,u⟩:=hrel;clear D C;by_cases q:k<b.length
   ·obtain⟨P,E,rfl,l⟩:=(j.below (Aa u)).at q
    have L:k<xs.length:=by omega
    obtain⟨g,cap,rfl,z,K,o,p⟩:=(Aa f).at (by rw[BZ];omega);have s:=l k q;have d:=o k (by rw[BZ];omega);have I:=p k;rw[Hi xs b k k (by omega),if_neg (by omega)]at d;have N:=u64_xor_nat (xs.getD k 0) (b.getD k 0) (h.2.1.get k) (j.2.1.get k);rw[BZ]at f;have R:=Ab (OR h.2.1 j.2.1 (by omega) z (Aa f) (Aa u));rw[BZ];generalize xs.getD k 0=x at*;generalize b.getD k 0=y at*;clear l o p h j f;go_wp2;go_roundw
    case rel=>exact⟨k+1,by omega,by go_num,Ab (Aa R).1,Ab (Aa R).2⟩
    case measure=>simp[intOf];omega
   ·have A:k=b.length:=by omega
    subst A;rw[KT xs b (by omega)]at f;clear h j;go_wp2;go_ret;exact⟨_,rfl,Aa f,Aa u⟩
def L0{xs b:List Nat}(c:Ac xs)(d:Ac b):Ac (xorL xs b):=by
 intro z a;unfold xorL at a;obtain⟨i,_,rfl⟩:=List.mem_map.1 a;have e:=c.get i;have f:=d.get i;exact Γ (n:=64) (by omega) (by omega)
def rh(a:Option Addr)(n c:Nat)(xs:List Nat)(d:Option Addr)(m g:Nat)(b:List Nat)(w:α)(ht:Tab w)(h:RowAt w a n xs)(i:RowAt w d m b)(p:n<=1048576)(o:m<=1048576):
  ο U 250 #[δ a n c,δ d m g] w fun e w'=>e=β (Β (decide (firstI (xorL xs b)<0)))/\θ w.heap.size w w':=by
 go_enter func250,ntmps250;go_wp2_with fail;refine(Jf a n c xs d m g b _ h i p o).mono ?_;rintro e w1 ⟨v,rfl,q,j⟩;obtain⟨k,c1,rfl,s⟩:=q.row;have l:(xorL xs b).length<=1048576:=by rw[BS,h.1,i.1];omega
 have f:=ht.below j;go_wp2_with fail;refine(JF k _ c1 _ _ f s l).mono ?_;rintro e w2 ⟨rfl,rfl⟩;go_wp2;go_ret;exact⟨rfl,j⟩
end Go.Proofs.YtfpmnekaockodaaGreatDoor
