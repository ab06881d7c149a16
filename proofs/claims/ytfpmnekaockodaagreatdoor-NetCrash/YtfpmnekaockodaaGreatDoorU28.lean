/- Laws for the proof. -/
import Derived.Test.YtfpmnekaockodaaGreatDoorU27
set_option linter.all false
open Go.Proofs.Tryz
open Go.Value renaming slice->U,string->α,pointer->ξ,int->ς,agg->Ζ,agg->Θ
open Nat renaming le_refl->β,le_trans->ο,lt_succ_self->φ,zero_le->Δ,le_succ->Η
open Go.World renaming block_lt_of_cell?->γ
open Go.Proofs.Tryz renaming prog->δ
open Go.RowKit.Below renaming refl->ε
open Go.Obj renaming cells->ζ
open Option renaming none->η,some->κ
open Go.Ending renaming returned->θ
open Go.RowKit renaming Below->ι
open List renaming length_append->μ,length_singleton->χ,map_append->ψ,length_map->ω,getD_eq_getElem?_getD->Γ,length_filter_le->Ε
open Go renaming World->ν,Calls->ρ,Value->υ
open Go.IntKind renaming i64->π
open Go.Builtin renaming zeroCells->σ
open Option.some renaming injEq->τ,inj->Α
open Go.Obj.cells renaming injEq->Β
namespace Go.Proofs.YtfpmnekaockodaaGreatDoor
open Go.RowKit Go.Sort
set_option maxRecDepth 4000
set_option maxHeartbeats 8000000
variable {k z:Int}{L:List (List Nat×ByteArray)}{bs:List ByteArray}{xs kn:List Nat}{x:List Nat×ByteArray}{rs us:List RV}{m g B n:Nat}{w:ν}
def oK(w:ν):(Instr.sliceAt 76 (U none 0 0) none (κ (.int π 0)) none).run δ w=.ok (U none 0 0) w:=by
 have:=run_sliceAt_slice (P:=δ) w 76 (U none 0 0) none (κ (.int π 0)) none Jz;rw[this,run_slice_h _ _ _ _ _ Jz _ _ (by omega) (by omega),Oq,Pn];simp[Result.andThen,sliced]
def RG(m:Nat):(σ (Θ #[U none 0 0,α ⟨#[]⟩]).cells m).size=m*2:=by
 unfold σ;simp[Value.cells]
def qt(m:Nat)(w:ν)(I:m<=1048576):
  ρ δ 283 #[U none 0 0,.int π (m:Int)] w fun e w'=> ∃q c1,e=θ (U q 0 c1)/\Ak w' w.heap.size (U q 0 c1) []/\ι w.heap.size w w':=by
 have A:decide ((m:Int)<0)=false:=by rw[decide_eq_false_iff_not];omega
 by_cases v:m=0
 ·subst v
  go_enter func283,ntmps283;go_wp2;go_ret;exact⟨η,0,rfl,Ak.nil _ _,ε _ _⟩
 ·have hp:decide ((0:Int)<(m:Int))=true:=by rw[decide_eq_true_iff];omega
  obtain⟨E,d,f,p,h⟩:=info_parts Kx;have r:=fun H=>Lib.run_append_nil_zeros (P:=δ) w 76 3 H 73 E (Ζ #[U none 0 0,α ⟨#[]⟩]) π π underlying76 underlying3 d f m (by omega) (by omega) (by omega) (by rw[h];omega);have y:=grownCap_ge w m 0 73;have j:=grownCap_le_maxLen w m 0 73 (by unfold maxLen;omega);generalize l:grownCap w m 0 73=a at*;obtain⟨R,i⟩:∃R,R=σ (Θ #[U none 0 0,α ⟨#[]⟩]).cells m++σ (Θ #[U none 0 0,α ⟨#[]⟩]).cells (a-m):=⟨_,rfl⟩;rw[<-i]at r;have b:R.size=a*2:=by rw[i,Array.size_append,RG,RG];omega
  have u:Hid (Ak (w.drew.alloc (.cells R 73)) w.heap.size (U (κ ⟨w.heap.size,0,η⟩) 0 a) []):=Ab ⟨rfl,.inr ⟨w.heap.size,a,R,rfl,β _,heap_alloc_new w.drew _,Δ _,j,b,by simp[cellsR]⟩⟩;have c:w.grownBy (w.drew.alloc (.cells R 73)) none:=⟨rfl,rfl,rfl,by simp,fun k o _=>heap_alloc_old w.drew _ o⟩;have s:=Ab (CA (B:=w.heap.size) c (β _) (fun k o=>by cases o));clear c;have C:=VZ w.heap.size 0 m a 0 (by omega);have D:=oK;clear d f p h i b l;go_enter func283,ntmps283;go_wp2_with (at_builtin;refine Lib.wpList_append_run _ rfl _ _ _ _ rfl _ _ rfl rfl _ _ (r _) ?_);go_ret;exact⟨_,_,rfl,Aa u,Aa s⟩
def aW(a b:List RV)(k:Nat):List RV:=if k=0 then []else if k=1 then a else a++b
def gC(g:Nat)(O:Option Addr)(p c1:Nat)(h:List RV)(Q:Option Addr)(u c2:Nat)(l:List RV)(B1 Z:Nat)(w:ν)(b:w.cell? ⟨g,0,η⟩=κ (U O p c1))(d:w.cell? ⟨g,1,η⟩=κ (U Q u c2))
  (X:Ak w B1 (U O p c1) h) (Y:Ak w Z (U Q u c2) l) (ad:p<=1000) (ae:u<=1000):
  ρ δ 255 #[U (κ ⟨g,0,η⟩) 2 2] w fun e w'=> ∃a3 m3 c3,e=θ (U a3 m3 c3)/\Ak w' w.heap.size (U a3 m3 c3) (h++l)/\ι w.heap.size w w':=by
 obtain⟨P,S,V⟩:=X.shape;obtain⟨R,T,W⟩:=Y.shape;have ab:h.length=p:=by simp only[Value.slice.injEq]at V;exact V.2.1.symm
 have ac:l.length=u:=by simp only[Value.slice.injEq]at W;exact W.2.1.symm
 clear V W P S R T;have H1:=Ab X;have H2:=Ab Y;have HC:=Ab (And.intro b d);have HG:=Ab (fun wx=>qt (p+u) wx (by omega));clear X Y;go_enter func255,ntmps255;go_wp2;go_loop [3,11] (fun s i=> ∃k:Nat,k<=2/\i=.int π k/\s=.int π ((if k=0 then 0 else if k=1 then p else p+u:Nat):Int)) (fun _ i=>2-(intOf i).toNat)
 case atStart=>exact⟨0,by omega,rfl,rfl⟩
 case round=>
  obtain⟨k,hk,rfl,rfl⟩:=hrel;obtain rfl|rfl|rfl:k=0\/k=1\/k=2:=by omega
  ·have hd:decide ((p:Int)<0)=false:=by rw[decide_eq_false_iff_not];omega
   go_wp2;go_round
   case rel=>exact⟨1,by omega,by go_num,by simp⟩
   case measure=>simp[intOf]
  ·have hd:decide ((p:Int)+(u:Int)<0)=false:=by rw[decide_eq_false_iff_not];omega
   go_wp2;go_round
   case rel=>exact⟨2,by omega,by go_num,by simp⟩
   case measure=>simp[intOf]
  ·clear b d
   go_wp2_with fail;refine(Aa HG w).mono ?_;rintro e w1 ⟨a3,c3,rfl,D,r⟩;obtain⟨b,d⟩:=Aa HC;have b:=(r.cell (γ w _ b)).trans b;have d:=(r.cell (γ w _ d)).trans d;have I:=Ab (And.intro b d);have C:=Ab D;have A:=Ab r;clear D r b d HG;go_wp2;go_loopw [6,27] (fun o i wr=> ∃k:Nat,∃a4 E c4,k<=2/\i=.int π k/\o=U a4 E c4/\Hid (Ak wr w.heap.size (U a4 E c4) (aW h l k))/\Hid (ι w.heap.size w wr)) (fun _ i _=>2-(intOf i).toNat)
   case atStart=>exact⟨0,a3,0,c3,by omega,rfl,rfl,C,A⟩
   case round=>
    obtain⟨k,a4,E,c4,aa,rfl,rfl,J,q⟩:=hrel;clear C A I;obtain⟨b,d⟩:=Aa HC;have b:=((Aa q).cell (γ w _ b)).trans b;have d:=((Aa q).cell (γ w _ d)).trans d;have K:=Ab ((Aa H1).below (Aa q));have N:=Ab ((Aa H2).below (Aa q));obtain rfl|rfl|rfl:k=0\/k=1\/k=2:=by omega
    ·go_wp2_with (at_builtin;refine RF rfl (.tmp 31) (.tmp 32) rfl w.heap.size B1 (U a4 E c4) (U O p c1) [] h rfl rfl (Aa J) (Aa q).size (Aa K) (by simp;omega) ?_;intro v5 w5 f j;(try rw[List.nil_append]at f);obtain⟨a5,H,c5,rfl⟩:∃a5 H c5,v5=Value.slice a5 H c5:=(by obtain⟨a,c,e⟩:=f.shape;exact⟨a,_,c,e⟩);have y:=Ab f;have v:=Ab ((Aa q).trans j);clear f j)
     go_roundw
     case rel=>exact⟨1,_,_,_,by omega,by go_num,rfl,y,v⟩
     case measure=>simp[intOf]
    ·go_wp2_with (at_builtin;refine RF rfl (.tmp 31) (.tmp 32) rfl w.heap.size Z (U a4 E c4) (U Q u c2) h l rfl rfl (Aa J) (Aa q).size (Aa N) (by omega) ?_;intro v5 w5 f j;(try rw[List.nil_append]at f);obtain⟨a5,H,c5,rfl⟩:∃a5 H c5,v5=Value.slice a5 H c5:=(by obtain⟨a,c,e⟩:=f.shape;exact⟨a,_,c,e⟩);have y:=Ab f;have v:=Ab ((Aa q).trans j);clear f j)
     go_roundw
     case rel=>exact⟨2,_,_,_,by omega,by go_num,rfl,y,v⟩
     case measure=>simp[intOf]
    ·go_wp2
     go_ret;exact⟨_,_,_,rfl,Aa J,Aa q⟩
def UJ{k:Int}{rs:List RV}(l:0<sizeOfK k)(i:Dx rs):∀(d j:Nat) (kn:List Nat) (bs:List ByteArray),Run k rs j kn bs->k.toNat-j<=d->∃c a,AN k rs c a
 |d,j,kn,bs,h,b=>by
  cases f:rs.find? (CE k kn)with
  |none=>exact⟨kn,bs,⟨j,h⟩,f⟩
  |some r=>
   have e:Run k rs (j+1) (By kn (blkOf kn r) true) (bs.set (blkOf kn r) (Dw bs r.xs r.s)):=⟨kn,bs,r,h,f,rfl,rfl⟩;have o:=(Run.known l i e).le
   match d,b with
   |0,b=>omega
   |d+1,b=>exact UJ l i d (j+1) _ _ e (by omega)
def Zn(a:Dx rs):∃kn bs,AN k rs kn bs:=by
 by_cases b:sizeOfK k=0
 ·exact⟨_,_,(I0 b).1⟩
 ·exact UJ (by omega) a _ 0 _ _ ⟨rfl,rfl⟩ (β _)
def peelC(k:Int)(rs:List RV)(kn:List Nat)(bs:List ByteArray):List (List Nat×ByteArray):=toldTo k kn bs k.toNat++restL k rs kn bs
def iq(k:Int)(a:Option Addr)(n c:Nat)(rs:List RV)(kn:List Nat)(bs:List ByteArray)(r:AN k rs kn bs)(w:ν)(ht:Tab w)(h:Aj w a n rs)(v:Af rs)(hn:n<=300):
  ρ δ 215 #[.int π k,U a n c] w fun e w'=> ∃l o c1 us,e=θ (U l o c1)/\Nz w w' (peelC k rs kn bs) l o c1 us:=by
 have J:=Ab (sN k a n c rs w ht h v (by omega));have R:=Ab (Qa h v);have A:=Ab (QW h v);have W:=Ab v;have T:=Ab h.1;clear h v ht;go_enter func215,ntmps215;go_wp2_with fail;refine(Aa J).mono ?_;rintro e w1 ⟨l,o,c1,d,D,I,c2,f,rfl,O⟩;obtain⟨s1,s2,l1,l2⟩:=O.short (Aa R) (Aa W) (Aa A);obtain⟨Z,X,P,o1,E,K,o2,H,N,s⟩:=O;obtain⟨rfl,rfl⟩:=r.uniq P;have Y:=Aa T;have q1:=(o1.at' E).2.1;have q2:=(o2.at' H).2.1;have b:ι w1.heap.size w1 (w1.alloc (ζ #[U l o c1,U D I c2] 76)):=(ε _ _).alloc (β _) _;have q:=Ab (gC w1.heap.size l o c1 d D I c2 f w.heap.size w.heap.size (w1.alloc (ζ #[U l o c1,U D I c2] 76)) (by simp) (by simp) (o1.below b) (o2.below b) (by omega) (by omega));have Q:=Ab (show(d++f).map core=peelC k rs kn bs by rw[ψ,K,N];rfl);have S:=Ab (E.append H);have C:=Ab (eh s1 s2);have y:=Ab (show(d++f).length<=1000 by rw[μ];omega);have p:=Ab s;have i:=Ab b;clear J P o1 E K o2 H N s s1 s2 l1 l2 q1 q2 b Y r;go_wp2_with fail;refine(Aa q).mono ?_;rintro e w2 ⟨a3,m3,c3,rfl,u,j⟩;have V:=Ab (show Nz w w2 (peelC k rs kn bs) a3 m3 c3 (d++f) from⟨u.mono (ο (Aa p).size (Aa i).size),((Aa S).below (Aa i)).below j,Aa C,Aa y,Aa Q,Ad (Ad (Aa p) (Aa i)) j⟩);clear u j q;go_wp2;go_ret;exact⟨_,_,_,_,rfl,Aa V⟩
def gF(k:Int)(a:Option Addr)(n c:Nat)(rs:List RV)(kn:List Nat)(bs:List ByteArray)(b:AN k rs kn bs)(w:ν)(ht:Tab w)(h:Aj w a n rs)(o:Af rs)(r:n<=300):
  ρ δ 185 #[.int π k,U a n c] w fun e w'=> ∃f i c1,e=θ (.tuple #[U f i c1,.bool (Ec k (peelC k rs kn bs))])/\Ar w' w.heap.size (U f i c1) (solveC k (peelC k rs kn bs))/\ι w.heap.size w w':=by
 have j:=Ab (dz k a n c (peelC k rs kn bs) w ht (fun w1 d=>iq k a n c rs kn bs b w1 (ht.below d) (h.below d) o r));clear ht h o b;go_enter func185,ntmps185;go_wp2_with fail;refine(Aa j).mono ?_;rintro e w1 ⟨f,i,c1,rfl,l,d⟩;have q:=Ab l;have p:=Ab d;clear l d j;go_wp2;go_ret2;exact⟨_,_,_,rfl,Aa q,Aa p⟩
def je{b:Nat}(c:0<sizeOfK k)(a:(b:Int)<k):AX k (unitL k (b:Int))=true:=by
 refine Hg.2 ⟨by rw[JL a];exact c,JL a,fun i d=>?_⟩;rw[I7 c a,decide_eq_false (by omega)]
def gQ(kn:List Nat)(h:AX k xs=true):AX k (dropL xs kn)=true:=by
 obtain⟨a,b,c⟩:=Hg.1 h;refine Hg.2 ⟨by rw[Jv];exact a,by rw[Jv];exact b,fun i d=>?_⟩;rw[Hk,c i d];rfl
def Tj(d:AN k rs kn bs)(e:Dx rs):∀x∈peelC k rs kn bs,AX k x.1=true:=by
 intro x a;by_cases h:sizeOfK k=0
 ·obtain⟨i,l,o⟩:=I0 (rs:=rs) h
  obtain⟨rfl,rfl⟩:=d.uniq i;unfold peelC at a;rw[l,o]at a;cases a
 ·obtain⟨j,c⟩:=d.kn e (by omega)
  unfold peelC at a;rcases List.mem_append.1 a with a|a
  ·obtain⟨b,p,_,rfl⟩:=Iw c a
   exact je c.size (by omega)
  ·unfold restL at a
   obtain⟨r,f,rfl⟩:=List.mem_map.1 a;have:=(List.mem_filter.1 f).2;unfold Fz at this;rw[Bool.and_eq_true,Bool.and_eq_true]at this;exact gQ kn this.1.1
def OW{ss:List ByteArray}{m:Nat}(h:∀i,(ss.getD i ByteArray.empty).size<=m)(vs:List Nat):∀n,(Bl ss vs n).length<=m
 |0=>by simp[Bl]
 |n+1=>by
  unfold Bl;split
  ·rw[BS,AR]
   have:=OW h vs n;have:=h n;omega
  ·exact OW h vs n
def O5{s:ByteArray}(h:∀i,(bs.getD i ByteArray.empty).size<=m)(a:s.size=m):(Dw bs xs s).size=m:=by
 unfold Dw;rw[UE,Dq,a];have:=OW h xs bs.length;omega
def O1{k:Int}{rs:List RV}{m:Nat}(p:0<sizeOfK k)(l:Dx rs)(v:∀r∈rs,r.s.size=m):∀{j:Nat} {kn:List Nat} {bs:List ByteArray},Run k rs j kn bs->(∀b,Ah kn b=true->(bs.getD b ByteArray.empty).size=m)/\∀b,(bs.getD b ByteArray.empty).size<=m
 |0,kn,bs,⟨c,d⟩=>by
  refine⟨(fun b a=>by rw[c,Jx]at a;cases a),fun b=>?_⟩;rw[d,Γ,List.getElem?_replicate];split<;>exact Δ _
 |j+1,kn,bs,⟨q,C,r,c,d,D,E⟩=>by
  obtain⟨K,A⟩:=O1 p l v c;have u:=Run.known p l c;have y:=List.mem_of_find?_eq_some d;have ht:=O5 (xs:=r.xs) A (v r y);obtain⟨N,f,I,J,i,H⟩:=KO (l r y).1 (List.find?_some d);have o:=DV p;subst D E;refine⟨fun b a=>?_,fun b=>?_⟩
  ·rw[Iy _ _ _ _ (by rw[u.len];omega)]at a
   rw[Kq];by_cases e:b=blkOf q r
   ·rw[if_pos ⟨e,by rw[u.lenb];exact i⟩];exact ht
   ·rw[if_neg e]at a
    rw[if_neg (fun h=>e h.1)];exact K b a
  ·rw[Kq]
   split
   ·omega
   ·exact A b
def me{ss:List ByteArray}(d:AN (ss.length:Int) rs kn bs)(c:Dx rs)(l:0<sizeOfK (ss.length:Int))(f:∀r∈rs,DK ss r.xs r.s=true)(i:∀r∈rs,r.s.size=m):∀x∈peelC (ss.length:Int) rs kn bs,Kb ss m x:=by
 intro x a;unfold peelC at a;obtain⟨⟨j,h⟩,u⟩:=id d;obtain⟨s1,s2⟩:=O1 l c i h;have o:=Run.known l c h;rcases List.mem_append.1 a with a|a
 ·refine⟨ni d c f x a,?_⟩
  obtain⟨b,q,e,rfl⟩:=Iw o a;exact s1 b e
 ·refine⟨nh d c f x a,?_⟩
  unfold restL at a;obtain⟨r,p,rfl⟩:=List.mem_map.1 a;exact O5 s2 (i r (List.mem_filter.1 p).1)
def Hz(k:Int)(rs:List RV):Nat:=(Ce (vecsL (rs.filter fun r=>AX k r.xs))).length
def L4(d:Dx rs)(e:∀r∈rs,r.xs.length<=10)(q:RV->Bool):Ay 1048576 (vecsL (rs.filter q)):=fun b c=>by
 obtain⟨r,a,rfl⟩:=List.mem_map.1 c;have a:=(List.mem_filter.1 a).1;exact⟨(d r a).1,by have:=e r a;omega⟩
def pB{ss:List ByteArray}(h:AN (ss.length:Int) rs kn bs)(d:Dx rs)(E:∀r∈rs,r.xs.length<=10)(N:rs.length<=300)(i:0<sizeOfK (ss.length:Int))(D:∀r∈rs,DK ss r.xs r.s=true)(H:∀r∈rs,r.s.size=m)(p:∀b,b<ss.length->(ss.getD b ByteArray.empty).size=m):
  Ec (ss.length:Int) (peelC (ss.length:Int) rs kn bs)=decide (Hz (ss.length:Int) rs=ss.length)/\solveC (ss.length:Int) (peelC (ss.length:Int) rs kn bs)=if Hz (ss.length:Int) rs=ss.length then ss else []:=by
 have a:=Tj h d;have J:=DU (ss.length:Int);have u:=DV i;obtain⟨j,C⟩:=h.kn d i
 have A:C5 1048576 (peelC (ss.length:Int) rs kn bs):=fun v I=>by
  obtain⟨x,c,rfl⟩:=List.mem_map.1 I;refine⟨?_,by have:=(GS (a x c)).2.1;omega⟩;unfold peelC at c;rcases List.mem_append.1 c with c|c
  ·obtain⟨b,K,_,rfl⟩:=Iw C c
   exact Fh (by omega)
  ·unfold restL at c
   obtain⟨r,q,rfl⟩:=List.mem_map.1 c;exact Hn (d r (List.mem_filter.1 q).1).1 _
 have o:(peelC (ss.length:Int) rs kn bs).length<=100000:=by
  unfold peelC toldTo restL;rw[μ,ω,ω];have f:=Ε (fun b=>Ah kn b) (List.range (ss.length:Int).toNat);have l:=Ε (Fz (ss.length:Int) kn) rs;rw[List.length_range]at f;omega
 have q:(Ce (vecsC (peelC (ss.length:Int) rs kn bs))).length=Hz (ss.length:Int) rs:=W9 A (L4 d E _) (UK h d);obtain⟨f,l,y⟩:=kE (m:=m) i A o a (me h d i D H) p;rw[q]at f l y;refine⟨f,?_⟩;by_cases e:Hz (ss.length:Int) rs=ss.length
 ·rw[if_pos e];exact l e
 ·rw[if_neg e];exact y e
def oR(k z n:Int)(w:ν):
  ρ δ 183 #[.int π k,.int π z,.int π n] w fun e w'=>e=θ (.pointer (κ ⟨w.heap.size,0,η⟩))/\Ax w' w.heap.size w.heap.size k z (capN n) (U none 0 0) [] false/\ι w.heap.size w w':=by
 have a:=MV n;have b:=MI n;go_enter func183,ntmps183;go_wp2;go_ret;exact⟨rfl,⟨YW _ _ _ _ _ _ _,β _,Ak.nil _ _,AD.nil _ _,Δ _,JS n,L5⟩,(ε _ _).alloc (β _) _⟩
def ZB(g B:Nat)(k z:Int)(m:Nat)(v:υ)(rs:List RV)(ov:Bool)(w:ν)(h:Ax w g B k z m v rs ov):
  ρ δ 87 #[.pointer (κ ⟨g,0,η⟩)] w fun e w'=>e=θ (.int π (rs.length:Int))/\w'=w:=by
 obtain⟨a,c,rfl, -, -, -⟩:=h.at;obtain⟨b,d,f,i,j⟩:=h.blk.at;clear h;go_enter func87,ntmps87;go_wp2;go_ret;exact⟨rfl,rfl⟩
def ZC(w:ν):ρ δ 87 #[ξ none] w fun e w'=>e=θ (.int π 0)/\w'=w:=by
 go_enter func87,ntmps87;go_wp2;go_ret;exact⟨rfl,rfl⟩
def rankN(rs:List RV):Nat:=(keepL (vecsL rs) rs.length).length
def VP(g B:Nat)(k z:Int)(m:Nat)(v:υ)(rs:List RV)(ov:Bool)(w:ν)(ht:Tab w)(h:Ax w g B k z m v rs ov):
  ρ δ 88 #[.pointer (κ ⟨g,0,η⟩)] w fun e w'=>e=θ (.int π (rankN rs:Int))/\ι w.heap.size w w':=by
 obtain⟨a,c,rfl,d, -, -⟩:=h.at;obtain⟨i,j,l,o,p⟩:=h.blk.at;have f:=Ab (mP a rs.length c rs w ht d h.rows.rows h.short (by have:=h.le;have:=h.most;omega));clear h d ht;go_enter func88,ntmps88;go_wp2_with (go_at_call 128;refine(Aa f).mono ?_;rintro e w1 ⟨rfl,b⟩);go_ret;exact⟨rfl,b⟩
def rQ(w:ν):ρ δ 88 #[ξ none] w fun e w'=>e=θ (.int π 0)/\w'=w:=by
 go_enter func88,ntmps88;go_wp2;go_ret;exact⟨rfl,rfl⟩
def Ss(a:Option Addr)(n c:Nat)(xs:List Nat)(s:ByteArray)(w:ν)(h:RowAt w a n xs)(T:n<=1048576)(Q:s.size<=1048576):
  ρ δ 217 #[Ζ #[U a n c,α s]] w fun e w'=> ∃l c2,e=θ (Ζ #[U l n c2,α s])/\Own w' w.heap.size (U l n c2) xs/\ι w.heap.size w w':=by
 have u:=(JM w (U a n c) (α s)).alloc (ζ #[U none 0 0,α ⟨#[]⟩] 73);have j:=JM (w.alloc (ζ #[U a n c,α s] 73)) (U none 0 0) (α ⟨#[]⟩);rw[A7]at j;have f:ι w.heap.size w ((w.alloc (ζ #[U a n c,α s] 73)).alloc (ζ #[U none 0 0,α ⟨#[]⟩] 73)):=GW (ε _ w) (ε _ _);have r:((w.alloc (ζ #[U a n c,α s] 73)).alloc (ζ #[U none 0 0,α ⟨#[]⟩] 73)).heap.size=w.heap.size+2:=by rw[A7,A7]
 have J:=h.below f;have q:=h.1;generalize hW:(w.alloc (ζ #[U a n c,α s] 73)).alloc (ζ #[U none 0 0,α ⟨#[]⟩] 73)=W at*;have D:=Ab (fun wx (A:ι W.heap.size W wx)=>Hj a n c xs wx (J.below A) (by omega));have E:=Ab (fun wx=>GR s wx Q);have I:=Ab (fun wx (A:ι W.heap.size W wx)=>show _/\_ from⟨u.below A,j.below A⟩);have C:=Ab f;have O:=Ab q;have P:=Ab r;obtain⟨⟨c0,c1⟩, -, -⟩:=u;clear h J j f q r;go_enter func217,ntmps217;go_wp2_with fail
 go_region_held3 (fun w'=>w'.cell? ⟨w.heap.size,0,η⟩=κ (U a n c)/\w'.cell? ⟨w.heap.size,1,η⟩=κ (α s)) (go_keep) (first
  |(go_at_call 253;refine(Aa D _ (by first|exact Aa y|exact(ε _ _).drew)).mono ?_;rintro e w1 ⟨V,rfl,b,o⟩;obtain⟨l,c2,rfl, -⟩:=b.row;have H:=Ab (show ι W.heap.size W w1 from Ad (by first|exact Aa y|exact(ε _ _).drew) o);rw[Aa O]at b⊢;have d:=Ab (b.mono (B':=w.heap.size+2) (Nat.le_of_eq (Aa P).symm));obtain⟨⟨⟨R,S⟩, -, -⟩,⟨⟨K,N⟩,f0,f1⟩⟩:=Aa I w1 (Aa H);clear b o)
  |(go_at_call 33;refine(Aa E _).mono ?_;rintro e w2 ⟨rfl,i⟩;have y:=Ab (show ι W.heap.size W w2 from Ad (by first|exact Aa H|exact(ε _ _).drew) i);(first|(have d:=Ab ((Aa d).below i))|skip);obtain⟨⟨⟨R,S⟩, -, -⟩,⟨⟨K,N⟩,f0,f1⟩⟩:=Aa I w2 (Aa y);clear i))
 all_goals go_wp2
 exact bodyPost_ret (v:=Ζ #[U l n c2,α s]) (by simp[results,Tryz.results217,go_sem,K,N]) rfl
  ⟨l,c2,rfl,(((Aa d).other 0 _ (φ _)).other 1 _ (φ _)).mono (Nat.le_add_right _ _),((Ad (Aa C) (Aa y)).setCell (p:=⟨w.heap.size+1,0,η⟩) (Η _) _).setCell (p:=⟨w.heap.size+1,1,η⟩) (Η _) _⟩
def qg(g B:Nat)(k z:Int)(m:Nat)(v:υ)(rs:List RV)(ov:Bool)(a:Option Addr)(n c:Nat)(xs:List Nat)(s:ByteArray)(w:ν)(h:Ax w g B k z m v rs ov)(E:RowAt w a n xs)(S:n<=1048576)(hs:s.size<=1048576):
  ρ δ 211 #[.pointer (κ ⟨g,0,η⟩),Ζ #[U a n c,α s]] w fun e w'=>e=θ (.bool (BX k z (xs,s)))/\ι w.heap.size w w':=by
 have b:ι w.heap.size w (w.alloc (ζ #[U a n c,α s] 73)):=(ε _ _).alloc (β _) _;have X:=GT w (U a n c) (α s);have i:=h.below b;have f:=E.below b;generalize hW:w.alloc (ζ #[U a n c,α s] 73)=W at*;have D:=Ab (Cf (W:=W) (fun w' p=>(L6 a n c xs k w' (f.below p)).mono fun e aa ⟨R,q⟩=>⟨NB R,q⟩));have C:=Ab (Cf (W:=W) (fun w' p=>Tr (GO a n c xs w' (f.below p) S)));obtain⟨H,I, -, -, -⟩:=i.blk.at;obtain⟨c0,c1⟩:=X;have Y:=cell_regrown H;have r1:=cell_regrown I;have r2:=cell_regrown c0;have Z:=cell_regrown c1;have o:=Ab b;have d:BX k z (xs,s)=(AX k xs&&decide (0<cnt xs)&&decide ((s.size:Int)=z)):=rfl;rw[d];clear h E i f b d H I c0 c1;generalize cnt xs=N at*;generalize AX k xs=V at*;have r:decide ((0:Int)<(N:Int))=decide (0<N):=by by_cases h:0<N<;>simp[h]
 have u:((s.size:Int)==z)=decide ((s.size:Int)=z):=by by_cases h:(s.size:Int)=z<;>simp[h]
 go_enter func211,ntmps211;cases T:V<;>cases P:decide (0<N)<;>cases Q:decide ((s.size:Int)=z)
 all_goals (subst T;rw[P]at r;rw[Q]at u)
 all_goals go_wp2_with fail
 all_goals refine wp_region_quiet_below (by kernel_rfl) (by kernel_rfl) ?_
 all_goals (repeat (with_reducible refine wpQuiet_step (fun K l=>?_);go_simp;first|(with_reducible refine l _ ?_;clear l K)|(apply Exists.intro;apply And.intro;(intro _;first|(go_at_call 179;exact Aa D _ _)|(go_at_call 180;exact Aa C _ _));with_reducible refine l _ ?_;clear l K)))
 all_goals refine wpQuiet_nil ?_
 all_goals (intro _ y;obtain⟨⟨O,A⟩,j⟩:=y;subst j)
 all_goals have J:=Ab (below_regrown W O A)
 all_goals clear D C Y r1 r2 Z
 all_goals go_wp2
 all_goals go_ret
 all_goals exact⟨rfl,Ad (Aa o) (Aa J)⟩
def iO(p v0 a:υ)(w:ν):ρ δ 212 #[p,Ζ #[v0,a]] w fun e w'=>e=θ (.int π 1)/\ι w.heap.size w w':=by
 go_enter func212,ntmps212;go_wp2;go_ret;exact⟨rfl,(ε _ _).alloc (β _) _⟩
def ej(g B:Nat)(k z:Int)(m:Nat)(v:υ)(rs:List RV)(ov:Bool)(v0 c:υ)(w:ν)(h:Ax w g B k z m v rs ov):
  ρ δ 213 #[.pointer (κ ⟨g,0,η⟩),Ζ #[v0,c]] w fun e w'=>e=θ (.int π 5)/\Ax w' g B k z m v rs true/\Tu (Dk g v) w w':=by
 have b:ι w.heap.size w (w.alloc (ζ #[v0,c] 73)):=(ε _ _).alloc (β _) _;have a:=h.below b;have l:=Ab a;have d:=Ab b;obtain⟨q,r,s,u,y⟩:=a.blk.at;have f4:=a.blk.frz 4;clear h a b;go_enter func213,ntmps213;go_wp2;go_ret;have a:=Aa l;have i:=Bz (w.alloc (ζ #[v0,c] 73)) g 4 (.bool true);have ht:Tu (Dk g v) (w.alloc (ζ #[v0,c] 73)) ((w.alloc (ζ #[v0,c] 73)).setCell ⟨g,4,η⟩ (.bool true)):=Tu.of_gb i fun j _ e=>.inl (Α e).symm;refine⟨rfl,⟨a.blk.set4 _,a.lo,?_,?_,a.le,a.most,a.short⟩,ht.after (Aa d)⟩
 ·refine World.ownsRow.kept a.own i ?_
  by_cases p:v.ownBlock=η
  ·exact .inl p
  ·refine .inr fun e=>?_
   obtain⟨o,f⟩:=a.own.blk5 e;have:=a.blk;unfold BG at this;rw[this]at f;simp only[τ,Β]at f;exact absurd f.2.1 (by decide)
 ·exact a.rows.tu ht a.words
def eE{ops:Array Oper}{o:Oper}{a:Act}{K:Act->ν->Prop}{Q:Exit->Act->ν->Prop}{E:Prop}(e:o.guard=η)(s x:Operand)
  (H:o.op=.call {callee:=.builtin .append,args:=#[s,x],argTypes:=#[76,76]}) (B:Nat) (v:υ) (rs:List RV) (r:RV) (I:a.eval s=v) (d:Ak w B v rs) (b:Nat)
  (J:a.eval x=U (κ ⟨b,0,η⟩) 1 1) (C:w.heap[b]? =κ (ζ #[.slice r.a r.n r.c,α r.s] 73 (0,0))) (O:rs.length<=1000000) (A:B<=w.heap.size)
  (h:∀g cap w',Ak w' B (U (κ ⟨g,0,η⟩) (rs.length+1) cap) (rs++[r])->w.grownBy w' v.ownBlock->(v.ownBlock=κ g\/g=w.heap.size)->K (a.put o.dst (U (κ ⟨g,0,η⟩) (rs.length+1) cap)) w'):
  if Region.wanted o (yielded ops a.tmps)=true then Oper.wp δ o a w K Q else E:=by
 obtain⟨N,D,i,j,l⟩:=info_parts Kx
 refine step_append_lies w e s x 76 H B 73 N (Ζ #[U none 0 0,α ⟨#[]⟩]) 2 40 underlying76 D i j l rfl (by decide) v rs.length (cellsR rs) I d ⟨b,0,η⟩ 1 1 [.slice r.a r.n r.c,α r.s] J rfl
  (World.news_of_block C) (fun u f=>by rcases List.mem_cons.1 f with rfl|f<;>first|rfl|(rw[List.mem_singleton.1 f];rfl)) (by decide) (by unfold maxLen;omega) (by omega) A _ rfl (fun g cap w' p q y _=>h g cap w' ?_ q y)
 show w'.ownsRow B 73 2 _ (rs++[r]).length (cellsR (rs++[r]));rw[μ,Km];exact p
def lb{W w1 w2:ν}{v:υ}{ov:Bool}{s:ByteArray}{c:Option Addr}{c2 g2 cap:Nat}(N:g<w.heap.size)(D:ι w.heap.size w W)(a:Ax W g B k z m v rs ov)(p:ι W.heap.size W w1)
  (J:Own w1 W.drew.heap.size (U c n c2) xs) (i:ι w1.heap.size w1 (w1.alloc (ζ #[U c n c2,α s] 73)))
  (A:Ak w2 B (U (κ ⟨g2,0,η⟩) (rs.length+1) cap) (rs++[⟨c,n,c2,xs,s⟩])) (q:(w1.alloc (ζ #[U c n c2,α s] 73)).grownBy w2 v.ownBlock) (C:v.ownBlock=κ g2\/g2=(w1.alloc (ζ #[U c n c2,α s] 73)).heap.size)
  (O:n<=10) (P:s.size<=1000) (R:rs.length<m):
  ∃v' r,(Ending.returned (.int π 0):Ending)=θ (.int π 0)/\core r=(xs,s)/\Ax (w2.setCell ⟨g,3,η⟩ (U (κ ⟨g2,0,η⟩) (rs.length+1) cap)) g B k z m v' (rs++[r]) ov/\Tu (Dk g v) w (w2.setCell ⟨g,3,η⟩ (U (κ ⟨g2,0,η⟩) (rs.length+1) cap))/\
   (v'.ownBlock=v.ownBlock\/∀j,v'.ownBlock=κ j->w.heap.size<=j):=by
 have l:=(a.below p).below i;generalize Q:w1.alloc (ζ #[U c n c2,α s] 73)=X at*
 have I:κ g≠v.ownBlock:=fun e=>by
  obtain⟨f,b⟩:=l.own.blk5 e.symm;have:=l.blk;unfold BG at this;rw[this]at b;simp only[τ,Β]at b;exact absurd b.2.1 (by decide)
 have y:=l.blk.kept q I
 have E:g≠g2:=fun e=>by
  subst e;obtain⟨f,b⟩:=A.blk5 (g:=g) rfl;have:=y;unfold BG at this;rw[this]at b;simp only[τ,Β]at b;exact absurd b.2.1 (by decide)
 have u:=Bz w2 g 3 (U (κ ⟨g2,0,η⟩) (rs.length+1) cap)
 have ht:Tu (Dk g v) X (w2.setCell ⟨g,3,η⟩ (U (κ ⟨g2,0,η⟩) (rs.length+1) cap)):=
  (Tu.of_gb (F:=Dk g v) q fun j _ e=>.inr e).trans (Tu.of_gb (F:=Dk g v) u fun j _ e=>.inl (Α e).symm) fun _ _ h=>h
 have o:ι w.heap.size w X:=Ad (Ad D p) i;have K:W.drew.heap.size=W.heap.size:=rfl;have d:Own X B (U c n c2) xs:=(J.mono (by rw[K];exact a.lob)).below i;refine⟨_,⟨c,n,c2,xs,s⟩,rfl,rfl,⟨y.set3 _,a.lo,?_,?_,?_,a.most,a.short.snoc O P⟩,ht.after o,?_⟩
 ·refine World.ownsRow.kept A u (.inr fun e=>E ?_)
  exact(Α e).symm
 ·exact(l.rows.tu ht l.words).snoc (d.tu ht fun j H=>by
   obtain⟨f,b⟩:=d.blkU H;exact l.words j f b)
 ·rw[μ,χ];omega
 ·rcases C with e|e
  ·exact .inl (by rw[e];rfl)
  ·refine .inr fun j H=>?_
   obtain rfl:g2=j:=Α H;rw[e];exact o.size
def kF(g B:Nat)(k z:Int)(m:Nat)(v:υ)(rs:List RV)(ov:Bool)(a:Option Addr)(n c:Nat)(xs:List Nat)(s:ByteArray)(w:ν)(h:Ax w g B k z m v rs ov)(hr:RowAt w a n xs)(hn:n<=10)(hs:s.size<=1000)(hl:rs.length<m):
  ρ δ 214 #[.pointer (κ ⟨g,0,η⟩),Ζ #[U a n c,α s]] w fun e w'=> ∃v' r,e=θ (.int π 0)/\core r=(xs,s)/\Ax w' g B k z m v' (rs++[r]) ov/\Tu (Dk g v) w w'/\
   (v'.ownBlock=v.ownBlock\/∀j,v'.ownBlock=κ j->w.heap.size<=j):=by
 have i:ι w.heap.size w (w.alloc (ζ #[U a n c,α s] 73)):=(ε _ _).alloc (β _) _;have hx:=GT w (U a n c) (α s);have b:=h.below i;have K:=hr.below i;have u:g<w.heap.size:=h.lt;generalize hW:w.alloc (ζ #[U a n c,α s] 73)=W at*;have R:=Ab (Ss a n c xs s W.drew (K.below (ε _ _).drew) (by omega) (by omega));obtain⟨k0,k1,k2,k3,k4⟩:=b.blk.at;obtain⟨c0,c1⟩:=hx;have P:=Ab i;have HS:=Ab b;have T:Hid (rs.length<=1000000):=Ab (by have:=b.most;omega)
 have V:Hid (κ g≠v.ownBlock):=Ab fun e=>by
  obtain⟨ac,hc⟩:=b.own.blk5 e.symm;have:=b.blk;unfold BG at this;rw[this]at hc;simp only[τ,Β]at hc;exact absurd hc.2.1 (by decide)
 have A:Hid (κ w.heap.size≠v.ownBlock):=Ab fun e=>by
  have:=(World.ownsRow.lt h.own _ e.symm).2;omega
 have ad:g≠w.heap.size:=Nat.ne_of_lt u;have aa:w.heap.size≠g:=Nat.ne_of_gt u;clear h hr b K i;go_enter func214,ntmps214;go_wp2_with fail
 go_region_law (first
  |(go_simp;go_at_call 217;refine(Aa R).mono ?_;rintro e w1 ⟨a2,c2,rfl,I,D⟩;have N:=Ab (show ι W.heap.size W w1 from Ad (ε _ _).drew D);have y:=(Aa HS).below (Aa N);have q:=Ab y;have Y:=Ab I;obtain⟨-, -, -,q3, -⟩:=y.blk.at;have q0:=((Aa N).cell (p:=⟨w.heap.size,0,η⟩) (γ W _ c0)).trans c0;have q1:=((Aa N).cell (p:=⟨w.heap.size,1,η⟩) (γ W _ c1)).trans c1;have l:ι w1.heap.size w1 (w1.alloc (ζ #[U a2 n c2,α s] 73)):=(ε _ _).alloc (β _) _;have d:=Ab l;have ae:=(l.cell (p:=⟨g,3,η⟩) (γ w1 _ q3)).trans q3;have H:=heap_alloc_new w1 (ζ #[U a2 n c2,α s] 73);have X:=Ab H;have Q:=Ab (ο (Aa q).lob l.size);clear I D y l H)
  |(refine eE (by rfl) _ _ (by rfl) B v rs ⟨a2,n,c2,xs,s⟩ (by rfl) ((Aa q).own.below (Aa d)) w1.heap.size (by rfl) (Aa X) (Aa T) (Aa Q) ?_;intro g2 cap w2 J f C;have Z:=Ab J;have S:=Ab f;have O:=Ab C;have E:=(Aa q).below (Aa d);have o:=E.blk.kept f (Aa V);obtain⟨-, -, -,u3, -⟩:=o.at;have uf:=o.frz 3;have ab:=Ab o;have u0:=f.cell (a:=⟨w.heap.size,0,η⟩) (((Aa d).cell (γ w1 _ q0)).trans q0) (Aa A);have u1:=f.cell (a:=⟨w.heap.size,1,η⟩) (((Aa d).cell (γ w1 _ q1)).trans q1) (Aa A);clear J f C E o))
 all_goals go_wp2
 all_goals go_ret
 all_goals exact lb u (Aa P) (Aa HS) (Aa N) (Aa Y) (Aa d) (Aa Z) (Aa S) (Aa O) hn hs hl
def Kj(f l:Bool):FuncId:=match f,l with
 |false,_=>212
 |true,true=>214
 |true,false=>213
def na(g B:Nat)(k z:Int)(m:Nat)(v:υ)(rs:List RV)(ov:Bool)(a:Option Addr)(n c:Nat)(xs:List Nat)(s:ByteArray)(w:ν)(h:Ax w g B k z m v rs ov)(y:RowAt w a n xs)(I:n<=10)(J:s.size<=1000):
  ρ δ 184 #[.pointer (κ ⟨g,0,η⟩),Ζ #[U a n c,α s]] w fun e w'=>e=θ (.func (.func (Kj (BX k z (xs,s)) (decide (rs.length<m)))) #[.pointer (κ ⟨g,0,η⟩)] #[])/\ι w.heap.size w w':=by
 have D:∀(q:Fn) (first cap:Array υ) (w:ν),(Instr.makeFunc q first cap).run δ w=.ok (.func q first cap) w:=fun _ _ _ _=>rfl;have d:ι w.heap.size w (w.alloc (ζ #[U a n c,α s] 73)):=(ε _ _).alloc (β _) _;have f:=h.below d;have C:=h.le;have o:=Ab (qg g B k z m v rs ov a n c xs s _ f (y.below d) (by omega) (by omega));obtain⟨E,H,rfl, -, -, -⟩:=f.at;have p:=Ab f;have j:=Ab d;clear h y f d;generalize r:Kj (BX k z (xs,s)) (decide (rs.length<m))=T;have l:=Ab r;clear r;go_enter func184,ntmps184;go_wp2_with fail;refine(Aa o).mono ?_;rintro e w1 ⟨rfl,i⟩;have b:=Ab (Ad (Aa j) i);obtain⟨K,N,O,P,Q⟩:=((Aa p).below i).blk.at;clear o p i;generalize BX k z (xs,s)=F at*;cases F
 ·go_wp2
  go_ret;exact⟨by rw[<-Aa l];rfl,Aa b⟩
 ·by_cases u:rs.length<m
  ·have A:((rs.length:Int)==(m:Int))=false:=by rw[beq_eq_false_iff_ne];omega
   go_wp2;go_quiet (fail);go_wp2;go_ret;exact⟨by rw[<-Aa l,decide_eq_true u];rfl,⟨(Aa b).os,(Aa b).tape,(Aa b).output,(Aa b).size,(Aa b).block⟩⟩
  ·have A:((rs.length:Int)==(m:Int))=true:=by rw[beq_iff_eq];omega
   go_wp2;go_quiet (fail);go_wp2;go_ret;exact⟨by rw[<-Aa l,decide_eq_false u];rfl,⟨(Aa b).os,(Aa b).tape,(Aa b).output,(Aa b).size,(Aa b).block⟩⟩
def dU(w w':ν)(g B:Nat)(k z:Int)(m:Nat)(v:υ)(rs:List RV)(ov:Bool)(x:List Nat×ByteArray)(e:Ending):Prop:=
 e=θ (.int π (IQ k z m (rs.map core) x))/\∃v' a,Ax w' g B k z m v' a (IS k z m (rs.map core) ov x)/\a.map core=IR k z m (rs.map core) x/\Tu (Dk g v) w w'/\(v'.ownBlock=v.ownBlock\/∀j,v'.ownBlock=κ j->w.heap.size<=j)
def bZ(h:BX k z x=false):IQ k z m L x=1/\IR k z m L x=L/\∀o,IS k z m L o x=o:=by
 unfold IQ IR IS;simp[h]
def Q4(h:BX k z x=true)(a:L.length<m):IQ k z m L x=0/\IR k z m L x=L++[x]/\∀o,IS k z m L o x=o:=by
 unfold IQ IR IS;simp[h,a]
def WC(h:BX k z x=true)(a:¬L.length<m):IQ k z m L x=5/\IR k z m L x=L/\∀o,IS k z m L o x=true:=by
 unfold IQ IR IS;simp only[h,a,if_true,if_false,and_false,true_and,not_false_eq_true];exact fun _=>trivial
def W7(g B:Nat)(k z:Int)(m:Nat)(v:υ)(rs:List RV)(ov:Bool)(a:Option Addr)(n c:Nat)(xs:List Nat)(s:ByteArray)(w:ν)(h:Ax w g B k z m v rs ov)(O:RowAt w a n xs)(T:n<=10)(V:s.size<=1000):
  ρ δ 161 #[.pointer (κ ⟨g,0,η⟩),Ζ #[U a n c,α s]] w fun e w'=>dU w w' g B k z m v rs ov (xs,s) e:=by
 have b:ι w.heap.size w (w.alloc (ζ #[U a n c,α s] 73)):=(ε _ _).alloc (β _) _;have W:=GT w (U a n c) (α s);have o:=h.below b;have u:=Ab (na g B k z m v rs ov a n c xs s _ o (O.below b) T V);have S:=Ab W;have R:=Ab o;have Q:=Ab (O.below b);have H:=Ab b;have r:=Ab (show(rs.map core).length=rs.length from ω core);obtain⟨c0,c1⟩:=W;clear h O o b;go_enter func161,ntmps161;go_wp2_with fail;refine(Aa u).mono ?_;rintro e w1 ⟨rfl,d⟩;obtain⟨Z,d1⟩:=(Aa S).below d;have f:=Ab (Ad (Aa H) d);have i:=Ab ((Aa R).below d);have J:=Ab ((Aa Q).below d);clear u S R Q d c0 c1;cases N:BX k z (xs,s)
 ·rw[show Kj false (decide (rs.length<m))=212 from rfl]
  go_wp2_with (go_at_call 212;refine(iO _ _ _ _).mono ?_;rintro e w2 ⟨rfl,y⟩);go_ret;obtain⟨C,D,E⟩:=bZ (m:=m) (L:=rs.map core) N;refine⟨by rw[C];rfl,v,rs,?_,D.symm,Tu.of_below (Ad (Aa f) y),.inl rfl⟩;rw[E];exact(Aa i).below y
 ·by_cases A:rs.length<m
  ·rw[show Kj true (decide (rs.length<m))=214 by rw[decide_eq_true A];rfl]
   have I:=Ab (kF g B k z m v rs ov a n c xs s w1 (Aa i) (Aa J) T V A);go_wp2_with (go_at_call 214;refine(Aa I).mono ?_;rintro e w2 ⟨Y,r2,rfl,K,l,p,P⟩);go_ret;obtain⟨C,D,E⟩:=Q4 (m:=m) (L:=rs.map core) N (by rw[Aa r];exact A);refine⟨by rw[C];rfl,Y,rs++[r2],?_,?_,p.after (Aa f),P.imp id fun q j X=>ο (Aa f).size (q j X)⟩
   ·rw[E];exact l
   ·rw[D,ψ,<-K];rfl
  ·rw[show Kj true (decide (rs.length<m))=213 by rw[decide_eq_false A];rfl]
   have I:=Ab (ej g B k z m v rs ov (U a n c) (α s) w1 (Aa i));go_wp2_with (go_at_call 213;refine(Aa I).mono ?_;rintro e w2 ⟨rfl,l,p⟩);go_ret;obtain⟨C,D,E⟩:=WC (m:=m) (L:=rs.map core) N (by rw[Aa r];exact A);refine⟨by rw[C];rfl,v,rs,?_,D.symm,p.after (Aa f),.inl rfl⟩;rw[E];exact l
def D8(n:Nat)(us:List RV):List RV:=us++List.replicate (n-us.length) zR
def ga(n:Nat):D8 n []=List.replicate n zR:=by simp[D8]
def eR(h:us.length<=n):(D8 n us).length=n:=by simp[D8];omega
def mC(h:us.length=n):D8 n us=us:=by simp[D8,h]
def gZ(r:RV)(h:us.length<n):(D8 n us).set us.length r=D8 n (us++[r]):=by
 unfold D8;rw[List.set_append_right _ _ (β _),Nat.sub_self,μ,χ,List.append_assoc,show n-us.length=(n-(us.length+1))+1 by omega,List.replicate_succ,List.set_cons_zero];rfl
def AD.set(h:AD w B rs)(i:Nat)(u:υ)(a:g<B):AD (w.setCell ⟨g,i,η⟩ u) B rs:=fun r b=>(h r b).other i u a
def IK(w w':ν)(rs:List RV)(e:Ending):Prop:=∃b c us,e=θ (U (κ ⟨b,0,η⟩) rs.length c)/\Ak w' w.heap.size (U (κ ⟨b,0,η⟩) rs.length c) us/\AD w' w.heap.size us/\us.map core=rs.map core/\ι w.heap.size w w'
def re(g B:Nat)(k z:Int)(m:Nat)(v:υ)(rs:List RV)(ov:Bool)(w:ν)(h:Ax w g B k z m v rs ov):
  ρ δ 186 #[.pointer (κ ⟨g,0,η⟩)] w fun e w'=>IK w w' rs e:=by
 obtain⟨a,c,rfl,hR, -, -⟩:=h.at;obtain⟨k0,k1,k2,k3,k4⟩:=h.blk.at;have ak:rs.length<=256:=ο h.le h.most;have al:=Nd rs.length (by omega);have HM:=Ab (Nc w rs.length (by omega) (D8 rs.length []) (ga _));have A:ι w.heap.size w (w.alloc (ζ (madeCells #[U none 0 0,α ⟨#[]⟩] (rs.length*2)) 73)):=(ε _ _).alloc (β _) _;obtain⟨j0,j1,j2,j3,j4⟩:=(h.blk.below A).at;have H:=Ab A;have HZ:=Ab (show w.heap.size+1<=(w.alloc (ζ (madeCells #[U none 0 0,α ⟨#[]⟩] (rs.length*2)) 73)).heap.size by rw[A7];exact β _);have Hh:=Ab hR;have ab:=Ab h.short;have ah:=Ab h.rows.rows;clear h hR A;go_enter func186,ntmps186;go_wp2;go_loopw [19] (fun i wr=> ∃us:List RV,us.length<=rs.length/\i=.int π us.length/\Hid (Ak wr w.heap.size (U (κ ⟨w.heap.size,0,η⟩) rs.length rs.length) (D8 rs.length us))/\Hid (AD wr (w.heap.size+1) us)/\Hid (us.map core=(rs.take us.length).map core)/\Hid (ι w.heap.size w wr)/\Hid (w.heap.size+1<=wr.heap.size)) (fun i _=>rs.length-(intOf i).toNat)
 case atStart=>exact⟨[],Δ _,rfl,HM,Ab (AD.nil _ _),Ab rfl,H,HZ⟩
 case round=>
  obtain⟨us,hk,rfl,W,HU,V,E,q⟩:=hrel;clear HM H HZ;by_cases f:us.length<rs.length
  ·obtain⟨b,off,rfl,P⟩:=((Aa Hh).below (Aa E)).at f
   obtain⟨ai,aj⟩:=P us.length f;have ag:(us.length:Int)<(rs.length:Int):=by omega
   have l:=((Aa Hh).below (Aa E)).2.1 us.length f;have am:=Aa ab us.length;have K:=Ab (kK rs us.length f);generalize rs.getD us.length .dflt=r at*;have y:ι wr.heap.size wr (wr.alloc (ζ #[.slice r.a r.n r.c,α r.s] 73)):=(ε _ _).alloc (β _) _;have I:=Ab (Ss r.a r.n r.c r.xs r.s _ (l.below y) (by omega) (by omega));have o:=Ab y;obtain⟨an,ao⟩:=GT wr (.slice r.a r.n r.c) (α r.s);clear P l y;go_wp2_with fail;refine(Aa I).mono ?_;rintro e w2 ⟨j,c2,rfl,R,O⟩;have d:=Ad (Aa o) O;have N:=(Aa W).below d;have Q:=eR hk;have C:=In (D8 rs.length us) us.length (by omega);have X:=N.cellAt C.1;have Y:=N.cellAt C.2;have u:w2.ownsRow w.heap.size 73 2 (U (κ ⟨w.heap.size,0,η⟩) rs.length rs.length) rs.length (cellsR (D8 rs.length us)):=by
    have:w2.ownsRow w.heap.size 73 2 (U (κ ⟨w.heap.size,0,η⟩) rs.length rs.length) (D8 rs.length us).length (cellsR (D8 rs.length us)):=N;rwa[Q]at this
   have ae:=u.frozenAt (us.length*2);have af:=u.frozenAt (us.length*2+1);have D:=N.stored us.length ⟨j,r.n,c2,r.xs,r.s⟩;rw[gZ _ f]at D;have hZ:=ο (Aa q) (ο (Aa o).size (β _));have S:=(((Aa HU).below d).snoc (r:=⟨j,r.n,c2,r.xs,r.s⟩) (R.mono hZ));have ac:=Ab ((S.set (us.length*2) (U j r.n c2) (φ _)).set (us.length*2+1) (α r.s) (φ _))
   have aa:=Ab (show(us++[(⟨j,r.n,c2,r.xs,r.s⟩:RV)]).map core=(rs.take (us++[(⟨j,r.n,c2,r.xs,r.s⟩:RV)]).length).map core by
    rw[μ,χ,<-Aa K,ψ,ψ,Aa V];rfl)
   have HS:=Ab D;have Z:=Ab (((Ad (Aa E) d).setCell (p:=⟨w.heap.size,us.length*2,η⟩) (β _) (U j r.n c2)).setCell (p:=⟨w.heap.size,us.length*2+1,η⟩) (β _) (α r.s))
   have ad:=Ab (show w.heap.size+1<=((w2.setCell ⟨w.heap.size,us.length*2,η⟩ (U j r.n c2)).setCell ⟨w.heap.size,us.length*2+1,η⟩ (α r.s)).heap.size by
    have:=d.size;have:=Aa q;simp;omega)
   have J:=Ab (show(us++[(⟨j,r.n,c2,r.xs,r.s⟩:RV)]).length=us.length+1 by rw[μ];rfl);clear I o R O d N u Q C D S hZ W E HU V q K;generalize (D8 rs.length us).getD us.length .dflt=zz at*;go_wp2;go_roundw
   case rel=>exact⟨us++[⟨j,r.n,c2,r.xs,r.s⟩],by rw[Aa J];omega,by rw[Aa J];go_num,HS,ac,aa,Z,ad⟩
   case measure=>simp[intOf];omega
  ·have T:us.length=rs.length:=by omega
   rw[mC T]at W;rw[T,List.take_length]at V;go_wp2;go_ret;exact⟨_,_,us,rfl,Aa W,(Aa HU).mono (Η _),Aa V,Aa E⟩
def CY(L:List (List Nat×ByteArray)):Nat:=(keepL (L.map Prod.fst) L.length).length
def oB(rs:List RV):vecsL rs=(rs.map core).map Prod.fst:=by
 unfold vecsL;rw[List.map_map];rfl
def LU(rs:List RV):rankN rs=CY (rs.map core):=by
 unfold rankN CY;rw[oB,ω]
def kC{w':ν}(j:Ae w us)(d:us.map core=rs.map core)(f:Ae w' rs)(h:Af rs):Af us:=
 SP j d fun x l=>by
  obtain⟨r,e,rfl⟩:=List.mem_map.1 l;obtain⟨i,b,rfl⟩:=List.mem_iff_getElem.1 e;have c:=(f _ (List.getElem_mem b)).1.1;have a:=h i;rw[Γ,List.getElem?_eq_getElem b]at a;simp only[Option.getD_some]at a;exact⟨by show(rs[i]).xs.length<=10;rw[c];exact a.1,a.2⟩
def IK.at{w':ν}{a:Option Addr}{c:Nat}(d:Ak w' B (U a n c) us)(b:AD w' B us)(e:us.map core=rs.map core)(f:Ae w rs)(h:Af rs):Aj w' a n us/\Ae w' us/\Af us/\n=us.length/\n<=c:=
 ⟨(d.at' b.rows).1,b.rows,kC b.rows e f h,(d.at' b.rows).2.1,(d.at' b.rows).2.2.1⟩
def rP(L:List (List Nat×ByteArray)):CY L<=L.length:=GL _ _
def Ax.mono{B':Nat}{v:υ}{ov:Bool}(h:Ax w g B k z m v rs ov)(a:B'<=B):Ax w g B' k z m v rs ov:=
 ⟨h.blk,ο a h.lo,h.own.mono a,h.rows.mono a,h.le,h.most,h.short⟩
end Go.Proofs.YtfpmnekaockodaaGreatDoor
