/- Laws for the proof. -/
import Derived.Shelf.Strings.Builder2
import Derived.Shelf.Strings.Repeat
import Derived.Test.YtfpmnekaockodaaGreatDoorU2
set_option linter.all false
open Go.Proofs.Tryz
open Go.Proofs.Tryz renaming prog->U
open Option renaming some->α,none->π
open Go.Value renaming int->β,string->ο,pointer->Α,slice->Κ,tuple->Τ
open Go.Ending renaming returned->γ
open List renaming length_append->δ,take_append_of_le_length->ζ,drop_append_of_le_length->η,length_cons->θ,take_of_length_le->ι,length_take->μ,drop_eq_nil_of_le->ν,getD_eq_getElem?_getD->ρ,length_drop->ς,take_add->σ,getElem?_eq_getElem->υ,replicate->χ,append_assoc->ψ,mem_cons_of_mem->ω,nil_append->Β,take_succ_cons->Ε,map_congr_left->Ζ,length_take_le->Η,mem_cons_self->Θ,map_map->Ρ
open Go.IntKind renaming i64->ε
open Nat renaming mod_eq_of_lt->κ,le_refl->ξ,lt_trans->Δ,mod_pow_succ->Ι,zero_le->Λ,pow_le_pow_right->Μ,mod_lt->Ν,lt_of_lt_of_le->Ξ,mul_comm->Ο
open Go renaming World->τ,Calls->Γ
open Go.RowKit renaming Below->φ
namespace Go.Proofs.YtfpmnekaockodaaGreatDoor
open Go.RowKit Go.Sort Go.Shelf
set_option maxRecDepth 4000
set_option maxHeartbeats 8000000
variable {w w':τ}
structure PKV where
 o:Int
 l:Int
 k:Int
 z:Int
 h:Int
 r:RV
def PKV.dflt:PKV:=⟨0,0,0,0,0,.dflt⟩
def PKV.val(p:PKV):Value:=.agg #[β ε p.o,β ε p.l,β ε p.k,β ε p.z,β ε p.h,.slice p.r.a p.r.n p.r.c,ο p.r.s]
def AT(w:τ)(b off:Nat)(p:PKV):Prop:=
 w.cell? ⟨b,off,π⟩=α (β ε p.o)/\w.cell? ⟨b,off+1,π⟩=α (β ε p.l)/\w.cell? ⟨b,off+2,π⟩=α (β ε p.k)/\w.cell? ⟨b,off+3,π⟩=α (β ε p.z)/\w.cell? ⟨b,off+4,π⟩=α (β ε p.h)/\
  w.cell? ⟨b,off+5,π⟩=α (.slice p.r.a p.r.n p.r.c)/\w.cell? ⟨b,off+6,π⟩=α (ο p.r.s)
def AT.belowB{b off B:Nat}{p:PKV}(h:AT w b off p)(c:φ B w w')(a:b<B):AT w' b off p:=
 ⟨(c.cell (p:=⟨b,off,π⟩) a).trans h.1,(c.cell (p:=⟨b,off+1,π⟩) a).trans h.2.1,(c.cell (p:=⟨b,off+2,π⟩) a).trans h.2.2.1,(c.cell (p:=⟨b,off+3,π⟩) a).trans h.2.2.2.1,(c.cell (p:=⟨b,off+4,π⟩) a).trans h.2.2.2.2.1,(c.cell (p:=⟨b,off+5,π⟩) a).trans h.2.2.2.2.2.1,(c.cell (p:=⟨b,off+6,π⟩) a).trans h.2.2.2.2.2.2⟩
def AT.below{b off:Nat}{p:PKV}(h:AT w b off p)(a:φ w.heap.size w w'):AT w' b off p:=h.belowB a (World.block_lt_of_cell? w _ h.1)
def PksAt(w:τ)(a:Option Addr)(n:Nat)(ps:List PKV):Prop:=
 ps.length=n/\(∀i,i<n->RowAt w (ps.getD i .dflt).r.a (ps.getD i .dflt).r.n (ps.getD i .dflt).r.xs)/\(n=0\/∃b off,a=α ⟨b,off,π⟩/\∀i,i<n->AT w b (off+i*7) (ps.getD i .dflt))
def PksAt.at{a:Option Addr}{n:Nat}{ps:List PKV}(h:PksAt w a n ps){i:Nat}(d:i<n):∃b off,a=α ⟨b,off,π⟩/\∀i,i<n->AT w b (off+i*7) (ps.getD i .dflt):=by
 rcases h.2.2 with c|c
 ·omega
 ·exact c
def PksAt.below{a:Option Addr}{n:Nat}{ps:List PKV}(h:PksAt w a n ps)(d:φ w.heap.size w w'):PksAt w' a n ps:=by
 refine⟨h.1,fun i c=>(h.2.1 i c).below d,?_⟩;rcases h.2.2 with e|⟨b,off,rfl,f⟩
 ·exact .inl e
 ·exact .inr ⟨b,off,rfl,fun i c=>(f i c).below d⟩
def Qx(ps:List PKV):Prop:=∀i,(ps.getD i .dflt).r.n<=10/\(ps.getD i .dflt).r.s.size<=1000
structure Br where
 kd:Int
 fr:Int
 ic:Int
 p:PKV
def Br.val(f:Br):Value:=.agg #[β ε f.kd,β ε f.fr,β ε f.ic,β ε f.p.o,β ε f.p.l,β ε f.p.k,β ε f.p.z,β ε f.p.h,.slice f.p.r.a f.p.r.n f.p.r.c,ο f.p.r.s]
variable {s:ByteArray}{k:Int}{xs:List Nat}
def num(xs:List Nat):Nat:=xs.foldl (fun a b=>a*256+b) 0
def sB(xs:List Nat)(b:Nat):num (xs++[b])=num xs*256+b:=by simp[num]
def mJ(xs:List Nat):∀a,xs.foldl (fun a b=>a*256+b) a=a*256^xs.length+num xs:=by
 unfold num
 induction xs with
 |nil=>intro a;simp
 |cons x r c=>
  intro a;simp only[List.foldl_cons,θ];rw[c (a*256+x),c (0*256+x),Nat.pow_succ,Nat.add_mul];simp only[Nat.zero_mul,Nat.zero_add];rw[Nat.mul_assoc a 256,Ο 256,Nat.add_assoc]
def PF(x:Nat)(r:List Nat):num (x::r)=x*256^r.length+num r:=by
 have:=mJ r (0*256+x);simp only[Nat.zero_mul,Nat.zero_add]at this;simpa [num]using this
def QB(h:bytes xs):num xs<256^xs.length:=by
 induction xs with
 |nil=>simp[num]
 |cons x r b=>
  have c:x<256:=h x (Θ ..);have d:=b (fun y a=>h y (ω _ a));rw[PF,θ,Nat.pow_succ];have e:x*256^r.length<=255*256^r.length:=Nat.mul_le_mul_right _ (by omega);omega
def I3(h:bytes xs){k:Nat}(a:xs.length<=k):num xs<256^k:=Ξ (QB h) (Μ (by decide) a)
def be:Nat->Nat->List Nat
 |0,_=>[]
 |W+1,n=>(n/256^W%256)::be W n
def CX:∀(W n:Nat),(be W n).length=W
 |0,_=>rfl
 |W+1,n=>by rw[be,θ,CX W n]
def Pf:∀(W n:Nat),bytes (be W n)
 |0,_=>Jy
 |W+1,n=>by
  intro x a;rw[be]at a;rcases List.mem_cons.1 a with rfl|a
  ·exact Ν _ (by decide)
  ·exact Pf W n x a
def WH:∀(W n k:Nat),k<W->(be W n).take (k+1)=(be W n).take k++[n/256^(W-1-k)%256]
 |0,_,_,h=>by omega
 |W+1,n,0,_=>by simp[be]
 |W+1,n,k+1,h=>by
  have:=WH W n k (by omega);rw[be,Ε,Ε,this,show W+1-1-(k+1)=W-1-k by omega];rfl
def Li:∀(W n:Nat),num (be W n)=n%256^W
 |0,n=>by simp[be,num,Nat.mod_one]
 |W+1,n=>by
  rw[be,PF,CX,Li W n,Ι,Ο,Nat.add_comm]
def QM:∀(W m n:Nat),m%256^W=n%256^W->be W m=be W n
 |0,_,_,_=>rfl
 |W+1,m,n,h=>by
  rw[Ι,Ι]at h;have hp:0<256^W:=Nat.pow_pos (by decide);have c:=Ν m hp;have d:=Ν n hp;have a:m%256^W=n%256^W:=by
   have:=congrArg (· %256^W) h;simpa [Nat.add_mul_mod_self_left,κ c,κ d]using this
  have b:m/256^W%256=n/256^W%256:=by
   rw[a]at h;exact Nat.eq_of_mul_eq_mul_left hp (by omega)
  rw[be,be,b,QM W m n a]
def CH(v:List Nat):List Nat:=v.flatMap (be 8)
def Vx(x:Nat)(r:List Nat):CH (x::r)=be 8 x++CH r:=by simp[CH]
def JA:∀v:List Nat,(CH v).length=8*v.length
 |[]=>rfl
 |x::r=>by rw[Vx,δ,CX,JA r,θ];omega
def Ua(v:List Nat):bytes (CH v):=by
 intro x a;obtain⟨y,_,b⟩:=List.mem_flatMap.1 a;exact Pf 8 y x b
def V8{v:List Nat}{k:Nat}(a:k<v.length):v.take (k+1)=v.take k++[v.getD k 0]:=by
 rw[List.take_add_one,υ a,ρ,υ a];rfl
def pX(W:Nat){v:List Nat}{k:Nat}(a:k<v.length):(v.take (k+1)).flatMap (be W)=(v.take k).flatMap (be W)++be W (v.getD k 0):=by
 rw[V8 a,List.flatMap_append];simp
def Sz(W:Nat):∀v:List Nat,(v.flatMap (be W)).length=v.length*W
 |[]=>by simp
 |x::r=>by rw[List.flatMap_cons,δ,CX,Sz W r,θ,Nat.add_mul];omega
def Gh{a:List Nat}(b:bytes xs)(c:bytes a):bytes (xs++a):=by
 intro x h;rcases List.mem_append.1 h with h|h
 ·exact b x h
 ·exact c x h
def Ch(xs:List Nat)(n:Nat):List Nat:=(List.range n).map fun i=>num ((xs.drop (8*i)).take 8)
def LZ(xs:List Nat)(n:Nat):(Ch xs n).length=n:=by simp[Ch]
def VK(xs:List Nat)(n:Nat):Ch xs (n+1)=Ch xs n++[num ((xs.drop (8*n)).take 8)]:=by simp[Ch,List.range_succ]
def Yd(b:xs.length=8)(a:List Nat)(n:Nat):Ch (xs++a) (n+1)=num xs::Ch a n:=by
 unfold Ch;rw[List.range_succ_eq_map,List.map_cons,Ρ];congr 1
 ·rw[Nat.mul_zero,List.drop_zero,<-b,List.take_left]
 ·apply Ζ
  intro i _;show num ((List.drop (8*(i+1)) (xs++a)).take 8)=_;rw[show 8*(i+1)=xs.length+8*i by omega,List.drop_append,ν (by omega),Β,show xs.length+8*i-xs.length=8*i by omega]
def Xl:∀(v a:List Nat),Ac v->Ch (CH v++a) v.length=v
 |[],_,_=>rfl
 |x::r,a,h=>by
  have b:x<18446744073709551616:=h x (Θ ..);rw[Vx,ψ,θ,Yd (CX 8 x),Li,Xl r a (fun y c=>h y (ω _ c)),κ b]
def rN(x b:Nat)(c:x<72057594037927936)(a:b<256):bits .or .u64 ((x:Int)*256) (b:Int)=((x*256+b:Nat):Int):=by
 rw[show(x:Int)*256=((256*x:Nat):Int) by omega,u64_or_nat (256*x) b (by omega) (by omega)];congr 1;have:=Nat.two_pow_add_eq_or_of_lt (i:=8) (show b<2^8 by omega) x;rw[show(256:Nat)=2^8 from rfl,<-this];omega
def EG(k:Int):Prop:=k=1\/k=2\/k=4
def TU(h:EG k):∃W:Nat,k=(W:Int)/\(W=1\/W=2\/W=4):=by
 rcases h with rfl|rfl|rfl
 ·exact⟨1,rfl,.inl rfl⟩
 ·exact⟨2,rfl,.inr (.inl rfl)⟩
 ·exact⟨4,rfl,.inr (.inr rfl)⟩
def ZR(h:¬EG k):(k==1)=false/\(k==2)=false/\(k==4)=false:=by
 unfold EG at h;simp only[beq_eq_false_iff_ne,ne_eq];omega
def Oy(k:Int)(h:EG k)(w:τ):Γ U 171 #[β ε k] w fun e w'=>e=γ (.bool true)/\w'=w:=by
 rcases h with rfl|rfl|rfl
 all_goals
  go_enter func171,ntmps171;go_wp2;go_ret;exact⟨rfl,rfl⟩
def UY(k:Int)(h:¬EG k)(w:τ):Γ U 171 #[β ε k] w fun e w'=>e=γ (.bool false)/\w'=w:=by
 obtain⟨a,b,c⟩:=ZR h;clear h;go_enter func171,ntmps171;go_wp2;go_ret;exact⟨rfl,rfl⟩
def sC{k:Nat}(a:k<xs.length):num (xs.take (k+1))=num (xs.take k)*256+xs.getD k 0:=by rw[V8 a,sB]
def fJ(h:bytes xs)(k:Nat):num (xs.take k)<256^k:=I3 (Gd h k) (Η ..)
def Th(s:ByteArray)(y:s.size<=8)(w:τ):
  Γ U 207 #[ο s] w fun e w'=>e=γ (β .u64 ((num (tx s):Nat):Int))/\w'=w:=by
 have p:=AR s;have c:=Cg s;go_enter func207,ntmps207;go_wp2;go_loop [3,7] (fun t i=> ∃k x:Nat,k<=s.size/\i=β ε k/\t=β .u64 (x:Int)/\Hid (x=num ((tx s).take k))) (fun _ i=>s.size-(intOf i).toNat)
 case atStart=>exact⟨0,0,Λ _,rfl,rfl,Ab (by simp[num])⟩
 case round=>
  obtain⟨k,x,v,rfl,rfl,a⟩:=hrel;by_cases g:k<s.size
  ·have m:=Lg s k g
   have d:=c.get k;have q:=fJ c k;have j:x<72057594037927936:=by
    rw[Aa a];exact Ξ q (Μ (n:=256) (by decide) (show k<=7 by omega))
   have u:=Ab (sC (xs:=tx s) (k:=k) (by omega));have r:=Ab (rN x _ j d);generalize (tx s).getD k 0=b at*;clear q p c;go_wp2;go_round
   case rel=>exact⟨k+1,x*256+b,by omega,by go_num,by rw[Aa r],Ab (by rw[Aa u,Aa a])⟩
   case measure=>simp[intOf];omega
  ·have f:k=s.size:=by omega
   subst f;rw[<-p,List.take_length]at a;go_wp2;go_ret;exact⟨Cu (by rw[Aa a]),rfl⟩
def gN(s:ByteArray)(k:Int):Nat:=if (k=1\/k=2\/k=4)/\k<=(s.size:Int)then num ((tx s).take k.toNat)else 0
def gE(s:ByteArray)(k:Int):Nat:=if¬(k=1\/k=2\/k=4)then 1 else if (s.size:Int)<k then 2 else 0
def dV(h:¬EG k):gN s k=0/\gE s k=1:=by
 unfold gN gE;exact⟨if_neg fun a=>h a.1,if_pos h⟩
def Yl(h:EG k)(b:(s.size:Int)<k):gN s k=0/\gE s k=2:=by
 unfold gN gE;exact⟨if_neg fun a=>by omega,by rw[if_neg (fun a=>a h),if_pos b]⟩
def Nk(h:EG k)(a:k<=(s.size:Int)):gN s k=num ((tx s).take k.toNat)/\gE s k=0:=by
 unfold gN gE;exact⟨if_pos ⟨h,a⟩,by rw[if_neg (fun b=>b h),if_neg (by omega)]⟩
def cV{k e:IntKind}{a c b d:Int}(h:a=c)(f:b=d):Ending.returned (Τ #[.int k a,.int e b])=γ (Τ #[.int k c,.int e d]):=by rw[h,f]
def Si(s:ByteArray)(k:Int)(w:τ):
  Γ U 173 #[ο s,β ε k] w fun e w'=>e=γ (Τ #[β ε ((gN s k:Nat):Int),β ε ((gE s k:Nat):Int)])/\w'=w:=by
 by_cases h:EG k
 ·by_cases i:(s.size:Int)<k
  ·obtain⟨a,b⟩:=Yl h i
   rw[a,b];have c:=Ab (fun wx=>Oy k h wx);clear h a b;go_enter func173,ntmps173;go_wp2_with (go_at_call 171;refine(Aa c _).mono ?_;rintro e w' ⟨rfl,rfl⟩);go_ret2;exact⟨rfl,rfl⟩
  ·obtain⟨a,b⟩:=Nk (s:=s) h (by omega)
   rw[a,b];have c:=Ab (fun wx=>Oy k h wx);obtain⟨W,rfl,hW⟩:=TU h;have d:(s.extract 0 W).size=W:=by rw[ByteArray.size_extract];omega
   have f:=Ab (fun wx=>Th (s.extract 0 W) (by omega) wx);have g:=Ab (show num (tx (s.extract 0 W))=num ((tx s).take W) by rw[Eu];rfl);have j:num (tx (s.extract 0 W))<256^4:=I3 (Cg _) (by rw[AR];omega);generalize num (tx (s.extract 0 W))=x at*;clear h a b d hW;go_enter func173,ntmps173;go_wp2_with (first|(go_at_call 171;refine(Aa c _).mono ?_;rintro e w' ⟨rfl,rfl⟩)|(go_at_call 207;refine(Aa f _).mono ?_;rintro e w' ⟨rfl,rfl⟩));go_ret2;rw[Int.toNat_natCast];exact⟨cV (by rw[<-Aa g]) rfl,rfl⟩
 ·obtain⟨a,b⟩:=dV (s:=s) h
  rw[a,b];have c:=Ab (fun wx=>UY k h wx);clear h a b;go_enter func173,ntmps173;go_wp2_with (go_at_call 171;refine(Aa c _).mono ?_;rintro e w' ⟨rfl,rfl⟩);go_ret2;exact⟨rfl,rfl⟩
def IP:Ren:=⟨fun|165=>204|166=>219|170=>220|105=>189|99=>224|206=>265|212=>223|263=>263|264=>264|167=>205|169=>206|240=>251|241=>252|276=>276|277=>277|n=>n,fun|0=>0|3=>3|4=>4|5=>5|9=>9|20=>20|37=>165|70=>296|72=>298|75=>300|80=>136|46=>305|51=>112|53=>265|76=>313|109=>316|146=>357|148=>359|127=>176|164=>371|n=>n,fun|n=>n⟩
def pc:Lays.n167 U IP:={
 mixed:=by kernel_rfl
 f167:=func205.trans (congrArg α (by kernel_rfl))
 f240:=func251.trans (congrArg α (by kernel_rfl))
 f276:=func276.trans (congrArg α (by kernel_rfl))
 t0:=underlying0
 a0:=Tryz.isAgg0
 z0:=Tryz.sizeOf0
 v0:=Tryz.zeroValue0
 t4:=underlying4
 a4:=Tryz.isAgg4
 z4:=Tryz.sizeOf4
 v4:=Tryz.zeroValue4
 t5:=underlying5
 a5:=Tryz.isAgg5
 z5:=Tryz.sizeOf5
 v5:=Tryz.zeroValue5
 t9:=underlying9
 a9:=Tryz.isAgg9
 z9:=Tryz.sizeOf9
 v9:=Tryz.zeroValue9
 t20:=underlying20
 a20:=Tryz.isAgg20
 z20:=Tryz.sizeOf20
 v20:=Tryz.zeroValue20
 t37:=underlying165
 a37:=Tryz.isAgg165
 z37:=Tryz.sizeOf165
 v37:=Tryz.zeroValue165
 t70:=underlying296
 a70:=Tryz.isAgg296
 z70:=Tryz.sizeOf296
 v70:=Tryz.zeroValue296
 t72:=underlying298
 a72:=Tryz.isAgg298
 z72:=Tryz.sizeOf298
 v72:=Tryz.zeroValue298
 t75:=underlying300
 a75:=Tryz.isAgg300
 z75:=Tryz.sizeOf300
 v75:=Tryz.zeroValue300
 t164:=underlying371
 a164:=Tryz.isAgg371
 z164:=Tryz.sizeOf371
 v164:=Tryz.zeroValue371}
def pa:Lays.n165 U IP:={
 mixed:=by kernel_rfl
 f165:=func204.trans (congrArg α (by kernel_rfl))
 f240:=func251.trans (congrArg α (by kernel_rfl))
 f241:=func252.trans (congrArg α (by kernel_rfl))
 f276:=func276.trans (congrArg α (by kernel_rfl))
 f277:=func277.trans (congrArg α (by kernel_rfl))
 t0:=underlying0
 a0:=Tryz.isAgg0
 z0:=Tryz.sizeOf0
 v0:=Tryz.zeroValue0
 t3:=underlying3
 a3:=Tryz.isAgg3
 z3:=Tryz.sizeOf3
 v3:=Tryz.zeroValue3
 t4:=underlying4
 a4:=Tryz.isAgg4
 z4:=Tryz.sizeOf4
 v4:=Tryz.zeroValue4
 t9:=underlying9
 a9:=Tryz.isAgg9
 z9:=Tryz.sizeOf9
 v9:=Tryz.zeroValue9
 t20:=underlying20
 a20:=Tryz.isAgg20
 z20:=Tryz.sizeOf20
 v20:=Tryz.zeroValue20
 t37:=underlying165
 a37:=Tryz.isAgg165
 z37:=Tryz.sizeOf165
 v37:=Tryz.zeroValue165
 t70:=underlying296
 a70:=Tryz.isAgg296
 z70:=Tryz.sizeOf296
 v70:=Tryz.zeroValue296
 t72:=underlying298
 a72:=Tryz.isAgg298
 z72:=Tryz.sizeOf298
 v72:=Tryz.zeroValue298
 t164:=underlying371
 a164:=Tryz.isAgg371
 z164:=Tryz.sizeOf371
 v164:=Tryz.zeroValue371}
def pe:Lays.n169 U IP:={
 mixed:=by kernel_rfl
 f169:=func206.trans (congrArg α (by kernel_rfl))
 t0:=underlying0
 a0:=Tryz.isAgg0
 z0:=Tryz.sizeOf0
 v0:=Tryz.zeroValue0
 t3:=underlying3
 a3:=Tryz.isAgg3
 z3:=Tryz.sizeOf3
 v3:=Tryz.zeroValue3
 t9:=underlying9
 a9:=Tryz.isAgg9
 z9:=Tryz.sizeOf9
 v9:=Tryz.zeroValue9
 t37:=underlying165
 a37:=Tryz.isAgg165
 z37:=Tryz.sizeOf165
 v37:=Tryz.zeroValue165
 t70:=underlying296
 a70:=Tryz.isAgg296
 z70:=Tryz.sizeOf296
 v70:=Tryz.zeroValue296
 t72:=underlying298
 a72:=Tryz.isAgg298
 z72:=Tryz.sizeOf298
 v72:=Tryz.zeroValue298
 t127:=underlying176
 a127:=Tryz.isAgg176
 z127:=Tryz.sizeOf176
 v127:=Tryz.zeroValue176}
def pb:Lays.n166 U IP:={
 mixed:=by kernel_rfl
 f166:=func219.trans (congrArg α (by kernel_rfl))
 f240:=func251.trans (congrArg α (by kernel_rfl))
 f276:=func276.trans (congrArg α (by kernel_rfl))
 t0:=underlying0
 a0:=Tryz.isAgg0
 z0:=Tryz.sizeOf0
 v0:=Tryz.zeroValue0
 t3:=underlying3
 a3:=Tryz.isAgg3
 z3:=Tryz.sizeOf3
 v3:=Tryz.zeroValue3
 t4:=underlying4
 a4:=Tryz.isAgg4
 z4:=Tryz.sizeOf4
 v4:=Tryz.zeroValue4
 t9:=underlying9
 a9:=Tryz.isAgg9
 z9:=Tryz.sizeOf9
 v9:=Tryz.zeroValue9
 t20:=underlying20
 a20:=Tryz.isAgg20
 z20:=Tryz.sizeOf20
 v20:=Tryz.zeroValue20
 t37:=underlying165
 a37:=Tryz.isAgg165
 z37:=Tryz.sizeOf165
 v37:=Tryz.zeroValue165
 t70:=underlying296
 a70:=Tryz.isAgg296
 z70:=Tryz.sizeOf296
 v70:=Tryz.zeroValue296
 t72:=underlying298
 a72:=Tryz.isAgg298
 z72:=Tryz.sizeOf298
 v72:=Tryz.zeroValue298
 t75:=underlying300
 a75:=Tryz.isAgg300
 z75:=Tryz.sizeOf300
 v75:=Tryz.zeroValue300
 t164:=underlying371
 a164:=Tryz.isAgg371
 z164:=Tryz.sizeOf371
 v164:=Tryz.zeroValue371}
def oe:Lays.n170 U IP:={
 mixed:=by kernel_rfl
 f170:=func220.trans (congrArg α (by kernel_rfl))
 t0:=underlying0
 a0:=Tryz.isAgg0
 z0:=Tryz.sizeOf0
 v0:=Tryz.zeroValue0
 t3:=underlying3
 a3:=Tryz.isAgg3
 z3:=Tryz.sizeOf3
 v3:=Tryz.zeroValue3
 t37:=underlying165
 a37:=Tryz.isAgg165
 z37:=Tryz.sizeOf165
 v37:=Tryz.zeroValue165
 t70:=underlying296
 a70:=Tryz.isAgg296
 z70:=Tryz.sizeOf296
 v70:=Tryz.zeroValue296
 t72:=underlying298
 a72:=Tryz.isAgg298
 z72:=Tryz.sizeOf298
 v72:=Tryz.zeroValue298}
def pZ:Lays.n105 U IP:={
 mixed:=by kernel_rfl
 f99:=func224.trans (congrArg α (by kernel_rfl))
 f105:=func189.trans (congrArg α (by kernel_rfl))
 f165:=func204.trans (congrArg α (by kernel_rfl))
 f166:=func219.trans (congrArg α (by kernel_rfl))
 f169:=func206.trans (congrArg α (by kernel_rfl))
 f170:=func220.trans (congrArg α (by kernel_rfl))
 f206:=func265.trans (congrArg α (by kernel_rfl))
 f212:=func223.trans (congrArg α (by kernel_rfl))
 f240:=func251.trans (congrArg α (by kernel_rfl))
 f241:=func252.trans (congrArg α (by kernel_rfl))
 f263:=func263.trans (congrArg α (by kernel_rfl))
 f264:=func264.trans (congrArg α (by kernel_rfl))
 f276:=func276.trans (congrArg α (by kernel_rfl))
 f277:=func277.trans (congrArg α (by kernel_rfl))
 t0:=underlying0
 a0:=Tryz.isAgg0
 z0:=Tryz.sizeOf0
 v0:=Tryz.zeroValue0
 t3:=underlying3
 a3:=Tryz.isAgg3
 z3:=Tryz.sizeOf3
 v3:=Tryz.zeroValue3
 t4:=underlying4
 a4:=Tryz.isAgg4
 z4:=Tryz.sizeOf4
 v4:=Tryz.zeroValue4
 t5:=underlying5
 a5:=Tryz.isAgg5
 z5:=Tryz.sizeOf5
 v5:=Tryz.zeroValue5
 t9:=underlying9
 a9:=Tryz.isAgg9
 z9:=Tryz.sizeOf9
 v9:=Tryz.zeroValue9
 t20:=underlying20
 a20:=Tryz.isAgg20
 z20:=Tryz.sizeOf20
 v20:=Tryz.zeroValue20
 t37:=underlying165
 a37:=Tryz.isAgg165
 z37:=Tryz.sizeOf165
 v37:=Tryz.zeroValue165
 t46:=underlying305
 a46:=Tryz.isAgg305
 z46:=Tryz.sizeOf305
 v46:=Tryz.zeroValue305
 t51:=underlying112
 a51:=Tryz.isAgg112
 z51:=Tryz.sizeOf112
 v51:=Tryz.zeroValue112
 t53:=underlying265
 a53:=Tryz.isAgg265
 z53:=Tryz.sizeOf265
 v53:=Tryz.zeroValue265
 t70:=underlying296
 a70:=Tryz.isAgg296
 z70:=Tryz.sizeOf296
 v70:=Tryz.zeroValue296
 t72:=underlying298
 a72:=Tryz.isAgg298
 z72:=Tryz.sizeOf298
 v72:=Tryz.zeroValue298
 t75:=underlying300
 a75:=Tryz.isAgg300
 z75:=Tryz.sizeOf300
 v75:=Tryz.zeroValue300
 t76:=underlying313
 a76:=Tryz.isAgg313
 z76:=Tryz.sizeOf313
 v76:=Tryz.zeroValue313
 t109:=underlying316
 a109:=Tryz.isAgg316
 z109:=Tryz.sizeOf316
 v109:=Tryz.zeroValue316
 t127:=underlying176
 a127:=Tryz.isAgg176
 z127:=Tryz.sizeOf176
 v127:=Tryz.zeroValue176
 t146:=underlying357
 a146:=Tryz.isAgg357
 z146:=Tryz.sizeOf357
 v146:=Tryz.zeroValue357
 t148:=underlying359
 a148:=Tryz.isAgg359
 z148:=Tryz.sizeOf359
 v148:=Tryz.zeroValue359
 t164:=underlying371
 a164:=Tryz.isAgg371
 z164:=Tryz.sizeOf371
 v164:=Tryz.zeroValue371}
def Lb:Builder.Extra U IP:={
 sizeBuilder:=by kernel_rfl
 liesBuilder:=by kernel_rfl
 t5:=underlying5
 a5:=Tryz.isAgg5
 z5:=Tryz.sizeOf5
 v5:=Tryz.zeroValue5
 infoByte:=by kernel_rfl
 cellsByte:=by kernel_rfl
 sizeByte:=by kernel_rfl
 neB5:=by decide}
def DJ(xs:List Nat):List Value:=xs.map fun(x:Nat)=>Value.int .u8 (x:Int)
def NJ(xs:List Nat):(DJ xs).length=xs.length:=by simp[DJ]
def fR(xs:List Nat)(x:Nat):DJ xs++[β .u8 (x:Int)]=DJ (xs++[x]):=by simp[DJ]
def eW{xs:List Nat}(h:bytes xs):Lib.byteCells (xs.map UInt8.ofNat)=DJ xs:=by
 unfold Lib.byteCells DJ;rw[Ρ];apply Ζ;intro x a;have:=h x a;simp[κ this]
def GD(w:τ)(B b:Nat)(xs:List Nat):Prop:=bytes xs/\Lib.IsBuilder 298 5 B b (DJ xs) w
def Uc(B b n:Nat)(w:τ)(d:B<=b)(c:w.heap[b]? =α (.cells #[Α none,Κ none 0 0] 298 (0,0)))(a:B<=w.heap.size)(f:n<=1073741824):
  Γ U 204 #[.pointer (α ⟨b,0,π⟩),β ε n] w fun e w'=>e=γ (Τ #[])/\GD w' B b []/\φ B w w':=
 (Any.Builder_Grow_fresh pa Lb B b n w d c a (by omega)).mono fun e w' h=>⟨h.1,⟨Jy,.inr h.2.1⟩,h.2.2⟩
def jd(B b:Nat)(xs:List Nat)(x:Nat)(w:τ)(h:GD w B b xs)(c:x<256)(f:xs.length<=1073741824)(a:B<=w.heap.size):
  Γ U 205 #[.pointer (α ⟨b,0,π⟩),β .u8 (x:Int)] w fun e w'=>e=γ .nilIface/\GD w' B b (xs++[x])/\φ B w w':=
 (Any.Builder_WriteByte pc Lb B b (DJ xs) (x:Int) w h.2 (by rw[NJ];omega) a).mono fun e w' k=>
  ⟨k.1,⟨Gh h.1 (fun y d=>by rw[List.mem_singleton.1 d];exact c),.inr (by have:=k.2.1;rw[fR]at this;exact this)⟩,k.2.2⟩
def VB(B b:Nat)(xs:List Nat)(w:τ)(h:GD w B b xs)(a:B<=w.heap.size):
  Γ U 206 #[.pointer (α ⟨b,0,π⟩)] w fun e w'=>e=γ (ο (st xs))/\φ B w w':=
 (Any.Builder_String_any pe Lb B b (xs.map UInt8.ofNat) w (by rw[eW h.1];exact h.2) a)
def ew(s:ByteArray):Lib.strCells s=DJ (tx s):=by
 unfold Lib.strCells DJ tx;rw[Ρ];rfl
def dv(xs a:List Nat):DJ xs++DJ a=DJ (xs++a):=by simp[DJ]
def lJ(B b:Nat)(xs:List Nat)(s:ByteArray)(w:τ)(h:GD w B b xs)(c:xs.length+s.size<=1073741824)(a:B<=w.heap.size):
  Γ U 219 #[.pointer (α ⟨b,0,π⟩),ο s] w fun e w'=>e=γ (Τ #[β ε s.size,.nilIface])/\GD w' B b (xs++tx s)/\φ B w w':=
 (Any.Builder_WriteString pb Lb B b (DJ xs) s w h.2 (by rw[NJ];omega) a).mono fun e w' k=>
  ⟨k.1,⟨Gh h.1 (Cg s),.inr (by have:=k.2.1;rw[ew,dv]at this;exact this)⟩,k.2.2⟩
def og(B b:Nat)(xs:List Nat)(w:τ)(h:GD w B b xs):
  Γ U 220 #[.pointer (α ⟨b,0,π⟩)] w fun e w'=>e=γ (β ε xs.length)/\w'=w:=
 (Any.Builder_Len oe B b (DJ xs) w h.2).mono fun e w' k=>by rw[NJ]at k;exact k
def eF(c:Nat):(⟨(Lib.repeatL [0] c).toArray⟩:ByteArray)=st (χ c 0):=by
 have h:=Lib.repeatL_replicate 0 1 c;rw[Nat.mul_one]at h;rw[show([0]:List UInt8)=χ 1 0 from rfl,h];unfold st;rw[List.map_replicate];rfl
def el(c:Nat)(w:τ)(a:c<=1048576):
  Γ U 189 #[ο ⟨#[0]⟩,β ε c] w fun e w'=>e=γ (ο (st (χ c 0)))/\φ w.heap.size w w':=
 (Any.strings_Repeat pZ Lb ⟨#[0]⟩ c w (by omega) (by show 1*c<=_;omega)).mono fun e w' k=>by
  rw[<-eF];exact k
variable {k:Int}
def YX(x d:Nat):(x:Int)/2^(8*d)%256=((x/256^d%256:Nat):Int):=by
 rw[show(2:Int)^(8*d)=((256^d:Nat):Int) by rw[Int.pow_mul];simp];simp
def Vr(W:Nat)(X:0<W)(hW:W<=8)(a:Option Addr)(n c:Nat)(xs:List Nat)(w:τ)(h:RowAt w a n xs)(Z:n<=1048576):
  Γ U 172 #[β ε (W:Int),Κ a n c] w fun e w'=>e=γ (ο (st (xs.flatMap (be W))))/\φ w.heap.size w w':=by
 obtain rfl:n=xs.length:=h.1.symm;have D:(W:Int)*(xs.length:Int)=((W*xs.length:Nat):Int):=by simp
 have N:W*xs.length<=8388608:=Nat.le_trans (Nat.mul_le_mul hW Z) (by decide);have O:=Ab (Uc w.heap.size w.heap.size (W*xs.length) (w.alloc (.cells #[Α none,Κ none 0 0] 298)) (ξ _) (heap_alloc_new w _) (by simp) (by omega));have A:φ w.heap.size w (w.alloc (.cells #[Α none,Κ none 0 0] 298)):=(Below.refl _ _).alloc (ξ _) _;generalize W*xs.length=m at*;go_enter func172,ntmps172;go_wp2_with (go_at_call 204;refine(Aa O).mono ?_;rintro e w1 ⟨rfl,u,B⟩);have Q:=A.trans B;have q:=Ab u;have r:=Ab Q;clear A B u Q O N D;go_loopw [16] (fun i wr=> ∃k:Nat,k<=xs.length/\i=β ε k/\Hid (GD wr w.heap.size w.heap.size ((xs.take k).flatMap (be W)))/\Hid (φ w.heap.size w wr)) (fun i _=>xs.length-(intOf i).toNat)
 case atStart=>exact⟨0,Λ _,rfl,Ab (by simpa using Aa q),r⟩
 case round=>
  obtain⟨k,hk,rfl,f,d⟩:=hrel;clear q r;by_cases p:k<xs.length
  ·obtain⟨b,off,rfl,R⟩:=(h.below (Aa d)).at p
   have I:=R k p;have hx:=h.2.1.get k;have V:=Ab (pX W p);have aa:((xs.take k).flatMap (be W)).length<=8388608:=by
    rw[Sz,μ];exact Nat.le_trans (Nat.mul_le_mul (show min k xs.length<=1048576 by omega) hW) (by decide)
   generalize xs.getD k 0=x at*;generalize (xs.take k).flatMap (be W)=E at*;clear R;go_wp2;go_loopw [21] (fun i S=> ∃j:Nat,j<=W/\i=β ε j/\Hid (GD S w.heap.size w.heap.size (E++(be W x).take j))/\Hid (φ w.heap.size w S)) (fun i _=>W-(intOf i).toNat)
   case atStart=>exact⟨0,Λ _,rfl,Ab (by simpa using Aa f),d⟩
   case round=>
    obtain⟨j,hj,rfl,f,d⟩:=hrel;by_cases K:j<W
    ·have Y:=YX x (W-1-j)
     have T:=Ab (WH W x j K);have hy:x/256^(W-1-j)%256<256:=Ν _ (by decide);generalize x/256^(W-1-j)%256=y at*;have C:(E++(be W x).take j).length<=1073741824:=by
      rw[δ];have:=Η j (be W x);omega
     have H:=Ab (jd w.heap.size w.heap.size _ y _ (Aa f) hy C (Aa d).size);clear C;go_wp2_with (go_at_call 205;refine(Aa H).mono ?_;rintro e w' ⟨rfl,v,g⟩);rw[ψ,<-Aa T]at v;go_roundw
     case rel=>exact⟨j+1,by omega,by go_num,Ab v,Ab ((Aa d).trans g)⟩
     case measure=>simp[intOf];omega
    ·have J:j=W:=by omega
     subst J;rw[ι (by rw[CX];exact ξ _),<-Aa V]at f;go_wp2;go_roundw
     case rel=>exact⟨k+1,by omega,by go_num,f,d⟩
     case measure=>simp[intOf];omega
  ·have L:k=xs.length:=by omega
   subst L;rw[List.take_length]at f;have H:=Ab (VB w.heap.size w.heap.size _ _ (Aa f) (Aa d).size);go_wp2_with (go_at_call 206;refine(Aa H).mono ?_;rintro e w' ⟨rfl,g⟩);go_ret;exact⟨rfl,(Aa d).trans g⟩
def m64(n:Int):Nat:=(n%18446744073709551616).toNat
def ZT(n:Int):m64 n<18446744073709551616:=by unfold m64;omega
def qN(n:Int):IntKind.u64.wrap n=((m64 n:Nat):Int):=by rw[IntKind.wrap_u64];unfold m64;omega
def BB(n k:Int):List Nat:=if k=1\/k=2\/k=4 then be k.toNat (m64 n)else []
def Pj{n:Int}(h:EG k):BB n k=be k.toNat (m64 n):=if_pos h
def Zp{n:Int}(h:¬EG k):BB n k=[]:=if_neg h
def GQ(n k:Int):bytes (BB n k):=by
 unfold BB;split
 ·exact Pf _ _
 ·exact Jy
def cN:st []=⟨#[]⟩:=rfl
def IA(n k:Int)(w:τ):
  Γ U 147 #[β ε n,β ε k] w fun e w'=>e=γ (ο (st (BB n k)))/\φ w.heap.size w w':=by
 by_cases h:EG k
 ·rw[Pj h]
  have b:=Ab (fun wx=>Oy k h wx);obtain⟨W,rfl,hW⟩:=TU h;have f:=qN n;have a:=ZT n;rw[Int.toNat_natCast];generalize m64 n=m at*;have c:=Ab (Vr W (by omega) (by omega) _ 1 1 [m] _ (rc w m a) (by omega));clear h hW a;go_enter func147,ntmps147;go_wp2_with (first|(go_at_call 171;refine(Aa b _).mono ?_;rintro e w' ⟨rfl,rfl⟩)|(go_at_call 172;refine(Aa c).mono ?_;rintro e w' ⟨rfl,d⟩));go_ret;exact⟨rfl,Qm (Below.refl _ _) d⟩
 ·rw[Zp h,cN]
  have b:=Ab (fun wx=>UY k h wx);clear h;go_enter func147,ntmps147;go_wp2_with (go_at_call 171;refine(Aa b _).mono ?_;rintro e w' ⟨rfl,rfl⟩);go_ret;exact⟨rfl,Below.refl _ _⟩
def iy(a:Option Addr)(n c:Nat)(xs:List Nat)(w:τ)(h:RowAt w a n xs)(b:n<=1048576):
  Γ U 181 #[Κ a n c] w fun e w'=>e=γ (ο (st (CH xs)))/\φ w.heap.size w w':=by
 have d:=Ab (Vr 8 (by omega) (by omega) a n c xs w h b);clear h b;go_enter func181,ntmps181;go_wp2_with (go_at_call 172;refine(Aa d).mono ?_;rintro e w' ⟨rfl,f⟩);go_ret;exact⟨rfl,f⟩
def Jn(s:ByteArray)(k:Int)(xs:List Nat)(e:Nat):Prop:=
 (sizeOfK k=0/\e=1/\xs=[])\/(0<sizeOfK k/\s.size<8*sizeOfK k/\e=2/\xs=[])\/
 (0<sizeOfK k/\8*sizeOfK k<=s.size/\¬Cm k (Ch (tx s) (sizeOfK k))/\e=3/\xs=[])\/(0<sizeOfK k/\8*sizeOfK k<=s.size/\Cm k (Ch (tx s) (sizeOfK k))/\e=0/\xs=Ch (tx s) (sizeOfK k))
def qs{s:ByteArray}{xs:List Nat}{e:Nat}(d:¬sizeOfK k=0)(f:¬s.size<8*sizeOfK k):
  Jn s k xs e↔(¬Cm k (Ch (tx s) (sizeOfK k))/\e=3/\xs=[])\/(Cm k (Ch (tx s) (sizeOfK k))/\e=0/\xs=Ch (tx s) (sizeOfK k)):=by
 unfold Jn;constructor
 ·intro h
  rcases h with⟨a,_⟩|⟨a,b,_⟩|⟨a,b,c⟩|⟨a,b,c⟩
  ·omega
  ·omega
  ·exact .inl c
  ·exact .inr c
 ·rintro(h|h)
  ·exact .inr (.inr (.inl ⟨by omega,by omega,h⟩))
  ·exact .inr (.inr (.inr ⟨by omega,by omega,h⟩))
def BL(xs:List Nat)(n j:Nat):List Nat:=Ch xs j++χ (n-j) 0
def fK(xs:List Nat)(n j:Nat)(h:j<=n):(BL xs n j).length=n:=by unfold BL;rw[δ,LZ,List.length_replicate];omega
def nN(xs:List Nat)(n:Nat):BL xs n 0=χ n 0:=by simp[BL,Ch]
def sK(xs:List Nat)(n:Nat):BL xs n n=Ch xs n:=by simp[BL]
def sL(xs:List Nat)(n j:Nat)(h:j<n):(BL xs n j).set j (num ((xs.drop (8*j)).take 8))=BL xs n (j+1):=by
 unfold BL;rw[VK,List.set_append,if_neg (by rw[LZ];omega),LZ,Nat.sub_self,show n-j=(n-(j+1))+1 by omega,List.replicate_succ,List.set_cons_zero,ψ];rfl
def Zc(s:ByteArray)(j:Nat):tx (s.extract (8*j) (8*(j+1)))=((tx s).drop (8*j)).take 8:=by
 rw[Eu,show 8*(j+1)-8*j=8 by omega]
def Ta(s:ByteArray)(k:Int)(w:τ)(ag:s.size<=9223372036854775807):
  Γ U 177 #[ο s,β ε k] w fun e w'=> ∃v xs en,e=γ (Τ #[v,β ε ((en:Nat):Int)])/\Own w' w.heap.size v xs/\Jn s k xs en/\φ w.heap.size w w':=by
 have T:=Ab (Hr k);have Y:=DU k;by_cases D:sizeOfK k=0
 ·have V:(((sizeOfK k:Nat):Int)==0)=true:=by rw[D];rfl
  have g:=Ab (show Jn s k [] 1 from .inl ⟨D,rfl,rfl⟩);clear D Y;go_enter func177,ntmps177;go_wp2_with (go_at_call 176;refine(Aa T _).mono ?_;rintro e w' ⟨rfl,rfl⟩);go_ret2;exact⟨_,[],1,rfl,Own.nil _ _,Aa g,Below.refl _ _⟩
 ·have V:(((sizeOfK k:Nat):Int)==0)=false:=by simp only[beq_eq_false_iff_ne,ne_eq];omega
  by_cases h1:s.size<8*sizeOfK k
  ·have g:=Ab (show Jn s k [] 2 from .inr (.inl ⟨by omega,h1,rfl,rfl⟩))
   have hd:((s.size:Int)<((sizeOfK k:Nat):Int)*8):=by omega
   clear D;go_enter func177,ntmps177;go_wp2_with (go_at_call 176;refine(Aa T _).mono ?_;rintro e w' ⟨rfl,rfl⟩);go_ret2;exact⟨_,[],2,rfl,Own.nil _ _,Aa g,Below.refl _ _⟩
  ·have hd:¬((s.size:Int)<((sizeOfK k:Nat):Int)*8):=by omega
   have R:=Ab (fun xs e=>qs (s:=s) (k:=k) (xs:=xs) (e:=e) D h1);obtain⟨i0,I,K,L,N⟩:=info_parts KX;obtain⟨wm,ac,f,a⟩:=run_make_full (P:=U) w w.heap.size 40 265 i0 (β .u64 0) 1 underlying40 I K L ε ε (sizeOfK k) (by rw[N];omega) (by unfold maxLen;omega) (ξ _);have r:=Ws f;have hb:φ w.heap.size w wm:=(Below.refl _ _).grown a (ξ _) (fun k hk=>by cases hk);rw[<-nN (tx s) (sizeOfK k)]at r;have m:=Ab r;have O:=Ab hb;generalize sizeOfK k=n at*;clear f a r hb I K L N;go_enter func177,ntmps177;go_wp2_with (go_at_call 176;refine(Aa T _).mono ?_;rintro e w' ⟨rfl,hw⟩;obtain rfl:=hw.symm);go_loopw [22] (fun i wr=> ∃j:Nat,j<=n/\i=β ε j/\Hid (Own wr w.heap.size (.slice (α ⟨w.heap.size,0,π⟩) n n) (BL (tx s) n j))/\Hid (φ w.heap.size w wr)) (fun i _=>n-(intOf i).toNat)
   case atStart=>exact⟨0,Λ _,rfl,m,O⟩
   case round=>
    obtain⟨j,hj,rfl,m,O⟩:=hrel;by_cases Z:j<n
    ·have y:=fK (tx s) n j (by omega)
     have r:=Aa m;have hx:num (((tx s).drop (8*j)).take 8)<18446744073709551616:=I3 (k:=8) (Gd (Ho (Cg s) _) 8) (Η ..);have W:(s.extract (j*8) ((j+1)*8)).size=8:=by rw[ByteArray.size_extract];omega
     have C:=Ab (fun wx=>Th (s.extract (j*8) ((j+1)*8)) (by omega) wx);rw[show j*8=8*j by omega,show(j+1)*8=8*(j+1) by omega,Zc]at C;rw[show 8*(j+1)=(j+1)*8 by omega]at C;rw[show tx s=tx s from rfl]at C;have J:=sL (tx s) n j Z;generalize aa:num (((tx s).drop (8*j)).take 8)=x at*;rw[show 8*j=j*8 by omega]at C;obtain⟨g',ab,A,ad,af,E,H⟩:=((show Own wr w.heap.size (.slice (α ⟨w.heap.size,0,π⟩) n n) (BL (tx s) n j) from r)).at (by omega);have q:=E j (by omega);have ae:=H j;have u:=(show Own wr w.heap.size (.slice (α ⟨w.heap.size,0,π⟩) (BL (tx s) n j).length n) (BL (tx s) n j) by rw[y];exact r).stored j x hx;rw[y,J]at u;simp only[Value.slice.injEq,Option.some.injEq,Addr.mk.injEq,and_true]at A;obtain⟨rfl, -, -⟩:=A;have HS:=Ab u;have Q:=Ab ((Aa O).setCell (p:=⟨w.heap.size,j,π⟩) (ξ _) (β .u64 (x:Int)));generalize (BL (tx s) n j).getD j 0=z at q;clear E H u r y J W m aa R;go_wp2_with (go_at_call 207;refine(Aa C _).mono ?_;rintro e w' ⟨rfl,hw⟩;obtain rfl:=hw.symm);go_roundw
     case rel=>exact⟨j+1,by omega,by go_num,HS,Q⟩
     case measure=>simp[intOf];omega
    ·have X:j=n:=by omega
     subst X;rw[sK]at m;have y:=LZ (tx s) j;obtain⟨a1,c1,A,hr⟩:=(Aa m).row;rw[y]at A hr;simp only[Value.slice.injEq,true_and]at A;obtain⟨rfl,rfl⟩:=A;have HV:=Ab (L6 _ j j _ k _ hr);clear hr y;go_wp2_with fail;refine(Aa HV).mono ?_;rintro e w' ⟨⟨b,rfl,d⟩,c⟩;have S:=Ab ((Aa m).below c);have B:=Ab (Ad (Aa O) c);cases b with
     |true=>
      have g:=Ab ((Aa R _ _).2 (.inr ⟨d.1 rfl,rfl,rfl⟩));clear d c;go_wp2;go_ret2;exact⟨_,_,0,rfl,Aa S,Aa g,Aa B⟩
     |false=>
      have g:=Ab ((Aa R _ _).2 (.inl ⟨fun h=>by simpa using d.2 h,rfl,rfl⟩));clear d c;go_wp2;go_ret2;exact⟨_,[],3,rfl,Own.nil _ _,Aa g,Aa B⟩
variable {s:ByteArray}{k z o l h:Int}{xs ts:List Nat}{en:Nat}{P:Prop}
def TB(b:Bool)(P:Prop):Prop:=b=true↔P
def EZ(P:Prop):∃b,TB b P:=by
 by_cases h:P
 ·exact⟨true,by simp[TB,h]⟩
 ·exact⟨false,by simp[TB,h]⟩
def TB.no{b:Bool}(h:TB b P)(hp:¬P):b=false:=by
 cases b
 ·rfl
 ·exact absurd (h.1 rfl) hp
def TB.yes{b:Bool}(h:TB b P)(hp:P):b=true:=h.2 hp
def EN(en:Nat)(P:Prop):Prop:=(P/\en=0)\/(¬P/\en=1)
def Nl(P:Prop):∃en,EN en P:=by
 by_cases h:P
 ·exact⟨0,.inl ⟨h,rfl⟩⟩
 ·exact⟨1,.inr ⟨h,rfl⟩⟩
def EN.yes(h:EN en P)(hp:P):en=0:=by
 rcases h with⟨_,h⟩|⟨h,_⟩
 ·exact h
 ·exact absurd hp h
def EN.no(h:EN en P)(hp:¬P):en=1:=by
 rcases h with⟨h,_⟩|⟨_,h⟩
 ·exact absurd h hp
 ·exact h
def Je(k z:Int):Prop:=(1<=k/\k<=128)/\1<=z/\z<=64
def Lc(o l k z h:Int):Prop:=Je k z/\(0<=o/\o<=4294967295)/\(0<=l/\l<=k*z)/\0<=h/\h<=15
def J4(k z:Int)(xs:List Nat)(n:Nat):Prop:=Cm k xs/\0<cnt xs/\(n:Int)=z
def Cd(o l k z h:Int)(xs:List Nat)(n:Nat):Prop:=Lc o l k z h/\J4 k z xs n
def Qv(h:Je k z):0<=k*z/\k*z<=8192:=by
 obtain⟨⟨d,a⟩,e,f⟩:=h;have b:0<=k*z:=Int.mul_nonneg (by omega) (by omega);have c:k*z<=128*z:=Int.mul_le_mul_of_nonneg_right a (by omega);omega
def BJ(o l k z h:Int)(xs ts:List Nat):List Nat:=BB o 4++BB l 4++BB k 1++BB z 1++BB h 1++CH xs++ts
def Ko(o l k z h:Int)(xs ts:List Nat)(ht:bytes ts):bytes (BJ o l k z h xs ts):=
 Gh (Gh (Gh (Gh (Gh (Gh (GQ _ _) (GQ _ _)) (GQ _ _)) (GQ _ _)) (GQ _ _)) (Ua _)) ht
def Fy(n:Int):BB n 4=be 4 (m64 n):=Pj (.inr (.inr rfl))
def D9(n:Int):BB n 1=be 1 (m64 n):=Pj (.inl rfl)
def Jk(n:Nat):be 1 n=[n%256]:=by simp[be]
def DX{n:Int}{m:Nat}(h:n=(m:Int))(a:m<18446744073709551616):m64 n=m:=by
 subst h;unfold m64;omega
def QN:∀xs:List Nat,bytes xs->be xs.length (num xs)=xs
 |[],_=>rfl
 |x::r,h=>by
  have b:x<256:=h x (Θ ..);have a:bytes r:=fun y f=>h y (ω _ f);have c:=QB a;rw[θ,be,PF];have d:(x*256^r.length+num r)/256^r.length=x:=by
   rw[Ο,Nat.mul_add_div (Nat.pow_pos (by decide)),Nat.div_eq_of_lt c,Nat.add_zero]
  have e:be r.length (x*256^r.length+num r)=be r.length (num r):=QM _ _ _ (by rw[Nat.mul_add_mod_self_right]);rw[d,e,QN r a,κ b]
def Ml{W:Nat}(h:bytes xs)(a:xs.length=W):be W (num xs)=xs:=by rw[<-a];exact QN xs h
def WG{xs:List Nat}(h:bytes xs):∀n,8*n<=xs.length->CH (Ch xs n)=xs.take (8*n)
 |0,_=>by simp[Ch,CH]
 |n+1,b=>by
  have a:=WG h n (by omega);have e:CH (Ch xs n++[num ((xs.drop (8*n)).take 8)])=CH (Ch xs n)++be 8 (num ((xs.drop (8*n)).take 8)):=by simp[CH]
  rw[VK,e,a,Ml (Gd (Ho h _) _) (by rw[μ,ς];omega),show 8*(n+1)=8*n+8 by omega,σ]
def dO(s:ByteArray):Nat:=num ((tx s).take 4)
def dL(s:ByteArray):Nat:=num (((tx s).drop 4).take 4)
def dK(s:ByteArray):Nat:=(tx s).getD 8 0
def dZ(s:ByteArray):Nat:=(tx s).getD 9 0
def dH(s:ByteArray):Nat:=(tx s).getD 10 0
def dN(s:ByteArray):Nat:=11+8*sizeOfK (dK s)
def dX(s:ByteArray):List Nat:=Ch ((tx s).drop 11) (sizeOfK (dK s))
def DY(s:ByteArray):Prop:=s.size<11\/(Je (dK s) (dZ s)/\s.size<dN s+dZ s)
def E2(s:ByteArray):Prop:=Cd (dO s) (dL s) (dK s) (dZ s) (dH s) (dX s) (s.size-dN s)
def Ft(o l k z h:Int)(xs:List Nat)(t:ByteArray):Prop:=o=0/\l=0/\k=0/\z=0/\h=0/\xs=[]/\t=⟨#[]⟩
def PL(s:ByteArray)(o l k z h:Int)(xs:List Nat)(t:ByteArray):Prop:=o=dO s/\l=dL s/\k=dK s/\z=dZ s/\h=dH s/\xs=dX s/\t=s.extract (dN s) s.size
def C4(s:ByteArray)(o l k z h:Int)(xs:List Nat)(t:ByteArray)(en:Nat):Prop:=
 (DY s/\en=2/\Ft o l k z h xs t)\/(¬DY s/\¬E2 s/\en=3/\Ft o l k z h xs t)\/(¬DY s/\E2 s/\en=0/\PL s o l k z h xs t)
def C4.uniq {s : ByteArray} {o l k z h q p n v m : Int} {xs u : List Nat} {t r : ByteArray} {en e : Nat} (x : C4 s o l k z h xs t en) (y : C4 s q p n v m u r e) :
    (o = q /\ l = p /\ k = n /\ z = v /\ h = m) /\ xs = u /\ t = r /\ en = e := by
  rcases x with ⟨a, b, c⟩ | ⟨a, g, b, c⟩ | ⟨a, g, b, c⟩ <;> rcases y with ⟨f, i, j⟩ | ⟨f, d, i, j⟩ | ⟨f, d, i, j⟩
  all_goals first
    | exact absurd a f
    | exact absurd f a
    | exact absurd g d
    | exact absurd d g
    | (obtain ⟨A, B, C, D, E, H, I⟩ := c
       obtain ⟨J, K, L, N, O, Q, R⟩ := j;rw [A, B, C, D, E, H, I, J, K, L, N, O, Q, R, b, i];exact ⟨⟨rfl, rfl, rfl, rfl, rfl⟩, rfl, rfl, rfl⟩)
def C4.err{t:ByteArray}(b:C4 s o l k z h xs t en):(en=0/\¬DY s/\E2 s/\PL s o l k z h xs t)\/((en=2\/en=3)/\Ft o l k z h xs t):=by
 rcases b with⟨_,h,a⟩|⟨_,_,h,a⟩|⟨c,b,h,a⟩
 ·exact .inr ⟨.inl h,a⟩
 ·exact .inr ⟨.inr h,a⟩
 ·exact .inl ⟨h,c,b,a⟩
def fg{p q:List Nat}{i:Nat}(h:i<p.length):(p++q).getD i 0=p.getD i 0:=by
 simp[ρ,List.getElem?_append_left h]
def ZA{us:List Nat}(n:Lc o l k z h)(L:Ac xs)(K:xs.length=sizeOfK k)(m:11<=s.size)(hp:∃r,tx s++r=BJ o l k z h xs ts):
  o=dO s/\l=dL s/\k=dK s/\z=dZ s/\h=dH s:=by
 obtain⟨r,a⟩:=hp;have J:=AR s;obtain⟨⟨⟨q,u⟩,C,D⟩,⟨o1,o2⟩,⟨N,O⟩,E,H⟩:=n;have p:=Qv ⟨⟨q,u⟩,C,D⟩;have e:BJ o l k z h xs ts=be 4 (m64 o)++(be 4 (m64 l)++([m64 k%256,m64 z%256,m64 h%256]++(CH xs++ts))):=by
  unfold BJ;rw[Fy,Fy,D9,D9,D9,Jk,Jk,Jk];simp
 rw[e]at a;have y:m64 o=o.toNat:=DX (by omega) (by omega);have x:m64 l=l.toNat:=DX (by omega) (by omega);have mk:m64 k=k.toNat:=DX (by omega) (by omega);have A:m64 z=z.toNat:=DX (by omega) (by omega);have v:m64 h=h.toNat:=DX (by omega) (by omega);have t4:(tx s).take 4=be 4 (m64 o):=by
  have:=congrArg (List.take 4) a;rw[ζ (by omega),ζ (by rw[CX];omega),ι (l:=be 4 (m64 o)) (by rw[CX];omega)]at this;exact this
 have c:(tx s).drop 4++r=be 4 (m64 l)++([m64 k%256,m64 z%256,m64 h%256]++(CH xs++ts)):=by
  have:=congrArg (List.drop 4) a;rw[η (by omega),η (by rw[CX];omega),(show(be 4 (m64 o)).drop 4=[] from ν (by rw[CX];omega)),Β]at this;exact this
 have B:((tx s).drop 4).take 4=be 4 (m64 l):=by
  have:=congrArg (List.take 4) c;rw[ζ (by rw[ς];omega),ζ (by rw[CX];omega),ι (l:=be 4 (m64 l)) (by rw[CX];omega)]at this;exact this
 have g:∀i,i<11->(tx s).getD i 0=(be 4 (m64 o)++(be 4 (m64 l)++([m64 k%256,m64 z%256,m64 h%256]++(CH xs++ts)))).getD i 0:=fun i I=>by
  rw[<-a,fg (by omega)]
 have d:dK s=m64 k%256:=by
  unfold dK;rw[g 8 (by omega)];simp[be]
 have f:dZ s=m64 z%256:=by
  unfold dZ;rw[g 9 (by omega)];simp[be]
 have b:dH s=m64 h%256:=by
  unfold dH;rw[g 10 (by omega)];simp[be]
 have go:dO s=m64 o%256^4:=by unfold dO;rw[t4,Li]
 have j:dL s=m64 l%256^4:=by unfold dL;rw[B,Li]
 rw[go,j,d,f,b,y,x,mk,A,v];refine⟨?_,?_,?_,?_,?_⟩<;>omega
def YH:(BJ o l k z h xs ts).length=11+8*xs.length+ts.length:=by
 unfold BJ;simp only[δ,Fy,D9,CX,JA]
def Ve:(BJ o l k z h xs ts).drop 11=CH xs++ts:=by
 unfold BJ;rw[ψ _ (CH xs),η (by simp only[δ,Fy,D9,CX];omega),ν (by simp only[δ,Fy,D9,CX];omega),Β]
def enc_size(o l k z h:Int)(xs:List Nat)(t:ByteArray):(st (BJ o l k z h xs (tx t))).size=11+8*xs.length+t.size:=by rw[Dq,YH,AR]
def Yy{t:ByteArray}(n:Ac xs)(a:Cd o l k z h xs t.size):
  ¬DY (st (BJ o l k z h xs (tx t)))/\E2 (st (BJ o l k z h xs (tx t)))/\PL (st (BJ o l k z h xs (tx t))) o l k z h xs t:=by
 have u:=enc_size o l k z h xs t;have ht:=Dv (Ko o l k z h xs (tx t) (Cg t));have r:=ZA (s:=st (BJ o l k z h xs (tx t))) (us:=[]) a.1 n a.2.1.2.1 (by omega) ⟨[],by rw[ht,List.append_nil]⟩;generalize v:st (BJ o l k z h xs (tx t))=s at*;obtain⟨d,e,b,f,g⟩:=r;have m:xs.length=sizeOfK k:=a.2.1.2.1;have x:(t.size:Int)=z:=a.2.2.2;have c:dN s=11+8*xs.length:=by unfold dN;rw[<-b,m]
 have i:dX s=xs:=by unfold dX;rw[<-b,<-m,ht,Ve,Xl xs _ n]
 have q:t=s.extract (dN s) s.size:=by
  apply Jj;have p:11+8*xs.length=8*xs.length+11:=by omega
  rw[Eu,ht,c,<-List.drop_drop,Ve,η (by rw[JA];exact ξ _),ν (by rw[JA];exact ξ _),Β,ι (by rw[AR];omega)]
 refine⟨?_,?_,d,e,b,f,g,i.symm,q⟩
 ·rintro(j|⟨_,j⟩)
  ·omega
  ·rw[c]at j
   omega
 ·unfold E2
  rw[<-d,<-e,<-b,<-f,<-g,i,c,show s.size-(11+8*xs.length)=t.size by omega];exact a
def YG(f:¬DY s)(j:E2 s):
  (s.extract (dN s) s.size).size=s.size-dN s/\st (BJ (dO s) (dL s) (dK s) (dZ s) (dH s) (dX s) (tx (s.extract (dN s) s.size)))=s:=by
 have e:=j.1.1;have d:dN s+dZ s<=s.size:=by
  have:¬s.size<dN s+dZ s:=fun h=>f (.inr ⟨e,h⟩);omega
 have g:11<=s.size:=by
  have:¬s.size<11:=fun h=>f (.inl h);omega
 have x:=AR s;have b:=Cg s;refine⟨by rw[ByteArray.size_extract];omega,?_⟩;apply Jj;rw[Dv (Ko _ _ _ _ _ _ _ (Cg _)),Eu];have a:∀i,(tx s).getD i 0<256:=fun i=>b.get i;have p:m64 (dO s:Int)=dO s:=DX rfl (Δ (I3 (Gd b 4) (k:=4) (by rw[μ];omega)) (by decide));have n:m64 (dL s:Int)=dL s:=DX rfl (Δ (I3 (Gd (Ho b 4) 4) (k:=4) (by rw[μ];omega)) (by decide));have mk:m64 (dK s:Int)=dK s:=DX rfl (Δ (a 8) (by decide));have q:m64 (dZ s:Int)=dZ s:=DX rfl (Δ (a 9) (by decide));have m:m64 (dH s:Int)=dH s:=DX rfl (Δ (a 10) (by decide))
 have c:∀i,i<s.size->be 1 ((tx s).getD i 0)=((tx s).drop i).take 1:=fun i v=>by
  rw[Jk,κ (a i)];have:i<(tx s).length:=by omega
  rw[List.drop_eq_getElem_cons this,Ε,List.take_zero,ρ,υ this];rfl
 unfold BJ;rw[Fy,Fy,D9,D9,D9,p,n,mk,q,m];have r:be 4 (dO s)=(tx s).take 4:=Ml (Gd b 4) (by rw[μ];omega);have u:be 4 (dL s)=((tx s).drop 4).take 4:=Ml (Gd (Ho b 4) 4) (by rw[μ,ς];omega);have wx:CH (dX s)=((tx s).drop 11).take (8*sizeOfK (dK s)):=WG (Ho b 11) _ (by rw[ς];unfold dN at d;omega);rw[r,u,show be 1 (dK s)=((tx s).drop 8).take 1 from c 8 (by omega),show be 1 (dZ s)=((tx s).drop 9).take 1 from c 9 (by omega),show be 1 (dH s)=((tx s).drop 10).take 1 from c 10 (by omega),wx];rw[<-σ,<-σ,<-σ,<-σ,<-σ];rw[show 4+4+1+1+1+8*sizeOfK (dK s)=dN s from by unfold dN;omega];rw[ι (l:=(tx s).drop (dN s)) (by rw[ς];omega),List.take_append_drop]
def Ye(xs:List Nat)(n:Nat):Ch (xs.take (8*n)) n=Ch xs n:=by
 unfold Ch;apply Ζ;intro i a;rw[List.mem_range]at a;rw[List.drop_take,List.take_take,show min 8 (8*n-8*i)=8 by omega]
def ka(s:ByteArray):Ch (tx (s.extract 11 (dN s))) (sizeOfK (dK s))=dX s:=by
 rw[Eu,show dN s-11=8*sizeOfK (dK s) by unfold dN;omega,Ye];rfl
def Vn{D:Nat}(f:dN s=D)(m:s.size=D+dZ s)(g:0<sizeOfK (dK s))(j:Jn (s.extract 11 D) (dK s) xs en):
  (Cd (dO s) (dL s) (dK s) (dZ s) (dH s) xs (dZ s)↔E2 s)/\(Cd (dO s) (dL s) (dK s) (dZ s) (dH s) xs (dZ s)->xs=dX s):=by
 have e:=ka s;rw[f]at e;have i:s.size-dN s=dZ s:=by omega
 have n:(s.extract 11 D).size=8*sizeOfK (dK s):=by rw[ByteArray.size_extract,<-f];unfold dN at*;omega
 unfold E2;rw[i];rcases j with⟨a,_⟩|⟨_,b,_⟩|⟨_,_,c,_,d⟩|⟨_,_,c,_,d⟩
 ·omega
 ·omega
 ·rw[e]at c
  subst d;exact⟨⟨fun h=>absurd h.2.1.1 (by simp),fun h=>absurd h.2.1 c⟩,fun h=>absurd h.2.1.1 (by simp)⟩
 ·rw[e]at d
  subst d;exact⟨Iff.rfl,fun _=>rfl⟩
end Go.Proofs.YtfpmnekaockodaaGreatDoor
