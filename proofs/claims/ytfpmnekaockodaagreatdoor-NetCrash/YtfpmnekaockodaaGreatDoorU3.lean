/- Laws for the proof. -/
import Derived.Test.YtfpmnekaockodaaGreatDoorU2
import Derived.Lib.AppendZeros
import Derived.Lib.AppendZerosOnto
import Derived.Laws.MathBits
set_option linter.all false
open Go.Proofs.Tryz
open List renaming getD_eq_getElem?_getD->U,getElem?_eq_getElem->γ,take_succ_eq_append_getElem->ι,eq_nil_of_length_eq_zero->κ,replicate->ο,take_append_drop->ς,length_append->σ,mem_cons_self->τ
open Go.Value renaming slice->α,string->ε,slice->ρ
open Option renaming some->β,none->δ
open Go.Proofs.Tryz renaming prog->ζ
open Go.Value.slice renaming injEq->η
open Option.some renaming injEq->θ
open Go renaming World->μ
open Go.RowKit.Below renaming refl->ν
open Nat renaming div_le_self->ξ,zero_le->π,le_trans->υ,le_refl->φ
namespace Go.Proofs.YtfpmnekaockodaaGreatDoor
open Go.RowKit Go.Sort
set_option maxRecDepth 4000
set_option maxHeartbeats 8000000
variable {L:List (List Nat×ByteArray)}{rs ts:List RV}{B g n c:Nat}{a:Option Addr}{v:Value}{wr w w':μ}
def rM(B g cap:Nat)(xs:List Nat)(b:Nat)(w:μ)(j:Own w B (α (β ⟨g,0,δ⟩) xs.length cap) xs)(K:b/64<xs.length)(V:xs.length<=1048576):
  Calls ζ 308 #[α (β ⟨g,0,δ⟩) xs.length cap,.int .i64 (b:Int)] w fun e w'=>e=.returned (.tuple #[])/\Own w' B (α (β ⟨g,0,δ⟩) xs.length cap) (By xs b true)/\w.grownBy w' (β g):=by
 obtain⟨i,p⟩:∃i:Int,i=(b:Int):=⟨_,rfl⟩;rw[<-p];have C:0<=i:=by omega
 have r:i<=9223372036854775807:=by omega
 obtain⟨q,E⟩:=Int.eq_ofNat_of_zero_le (show 0<=i/64 by omega);have z:q<xs.length:=by omega
 have H:(q:Int)<(xs.length:Int):=by omega
 have S:=Mx i q C r E;obtain⟨g',A,D,m,O,f,h⟩:=j.at (by omega);simp only[η,θ,Addr.mk.injEq,true_and,and_true]at D;obtain⟨rfl,rfl⟩:=D;have o:=f q z;have N:=h q;have T:=j.1.get q;have P:=PB i;have Q:=QH (xs.getD q 0) i T;have R:=Ab (UV (on:=true) C E j.1 m j (ν B w)).1;have J:=Ab (fun u=>Bz w g q u);have I:Hid (E7 xs i true=By xs b true):=Ab (by unfold E7;rw[if_neg (by omega),p,Int.toNat_natCast]);generalize (2^(i%64).toNat:Nat)=mk at*;generalize xs.getD q 0=x at*;generalize setW x (i%64).toNat true=y at*;clear f h j K p;go_enter func308,ntmps308;go_wp2;go_end0;exact⟨rfl,by rw[<-Aa I];exact Aa R,Aa J _⟩
def gP{cap:Nat}{xs b:List Nat}{k:Nat}(i:Ac xs)(h:k<xs.length)(f:Own wr B (α (β ⟨g,0,δ⟩) xs.length cap) (Gs xs b k)):
  Own (wr.setCell ⟨g,k,δ⟩ (.int .u64 ((anW (xs.getD k 0) (b.getD k 0):Nat):Int))) B (α (β ⟨g,0,δ⟩) xs.length cap) (Gs xs b (k+1)):=by
 have e:=Gg xs b k;rw[<-e]at f;have:=f.stored k (anW (xs.getD k 0) (b.getD k 0)) (QK _ _ (i.get k));rw[fX xs b k h,e]at this;exact this
def oY(B:Nat)(a:Option Addr)(c:Nat)(xs:List Nat)(K:Option Addr)(m W:Nat)(b:List Nat)(w:μ)(E:Own w B (α a xs.length c) xs)(q:RowAt w K m b)
  (h:m=0\/∀Q,K=β Q->β Q.block≠(ρ a xs.length c).ownBlock) (hn:xs.length<=1048576) (hm:m<=1048576):
  Calls ζ 306 #[α a xs.length c,α K m W] w fun e w'=>e=.returned (.tuple #[])/\Own w' B (α a xs.length c) (dropL xs b)/\w.grownBy w' (ρ a xs.length c).ownBlock:=by
 obtain rfl:m=b.length:=q.1.symm;have D:=fun wx ts t=>Jc xs.length b.length ts t wx;obtain⟨f,o⟩:∃f,f=min xs.length b.length:=⟨_,rfl⟩;rw[<-o]at D;have ae:f<=xs.length/\f<=b.length:=by omega
 have J:=Ab o;clear o;go_enter func306,ntmps306;go_wp2;go_loopw [10] (fun i wr=> ∃k:Nat,k<=f/\i=.int .i64 k/\Hid (Own wr B (α a xs.length c) (Gs xs b k))/\Hid (w.grownBy wr (ρ a xs.length c).ownBlock)) (fun i _=>f-(intOf i).toNat)
 case atStart=>exact⟨0,π _,rfl,Ab (by rw[fY];exact E),Ab (Gn _ _)⟩
 case round=>
  obtain⟨k,hk,rfl,p,I⟩:=hrel;by_cases ac:k<f
  ·obtain⟨b',T,rfl,r⟩:=(q.kept (Aa I) h).at (i:=k) (by omega)
   have P:k<xs.length:=by omega
   have ab:(k:Int)<(b.length:Int):=by omega
   have aa:(k:Int)<(xs.length:Int):=by omega
   obtain⟨g,cap,N,X,Z,A,C⟩:=(Aa p).at (by rw[Gg];omega);rw[Gg]at N;simp only[η,true_and]at N;obtain⟨rfl,rfl⟩:=N;have H:=r k (by omega);have j:=A k (by rw[Gg];omega);have Y:=C k;rw[Kp xs b k k (by omega),if_neg (by omega)]at j;have af:=YP (xs.getD k 0) (b.getD k 0) (E.1.get k) (q.2.1.get k);have R:=Ab (gP E.1 P (Aa p));have V:=Ab (fun u=>Bx (Aa I) (Bz _ g k u) (.inl rfl));generalize anW (xs.getD k 0) (b.getD k 0)=z at*;generalize xs.getD k 0=x at*;generalize b.getD k 0=y at*;clear r A C q p E h;have S:(k:Int)<(f:Int):=by omega
   go_wp2;go_region
   all_goals go_wp2
   all_goals go_roundw
   all_goals first|exact⟨k+1,by omega,by go_num,Ab (Aa R).drew,Ab (JU (Aa V _))⟩|(simp[intOf];omega)
  ·have O:k=f:=by omega
   subst O;rw[gO xs b _ (by have:=Aa J;omega)]at p;clear q h E;go_wp2;go_end0;exact⟨rfl,Aa p,Aa I⟩
def Kx:(Tryz.prog.info? 73).map (fun i=>(i.zero,i.size,i.bytes))=β (β (.agg #[α none 0 0,ε ⟨#[]⟩]),2,40):=by kernel_rfl
def cellsR:List RV->List Value
 |[]=>[]
 |r::rs=>.slice r.a r.n r.c::ε r.s::cellsR rs
def LK:∀rs:List RV,(cellsR rs).length=rs.length*2
 |[]=>rfl
 |r::rs=>by simp[cellsR,LK rs];omega
def Km:∀(a b:List RV),cellsR (a++b)=cellsR a++cellsR b
 |[],b=>rfl
 |r::a,b=>by simp[cellsR,Km a b]
def In:∀(rs:List RV) (i:Nat),i<rs.length->(cellsR rs)[i*2]? =β (.slice (rs.getD i .dflt).a (rs.getD i .dflt).n (rs.getD i .dflt).c)/\(cellsR rs)[i*2+1]? =β (ε (rs.getD i .dflt).s)
 |[],i,h=>by simp at h
 |r::rs,0,_=>by simp[cellsR]
 |r::rs,i+1,h=>by
  have:=In rs i (by simpa using h);rw[show(i+1)*2=i*2+1+1 by omega];simpa [cellsR]using this
def SG:∀(rs:List RV),∀u∈cellsR rs,u.oneCell'=true
 |[],u,h=>by cases h
 |r::rs,u,h=>by
  rcases List.mem_cons.1 h with rfl|h
  ·rfl
  ·rcases List.mem_cons.1 h with rfl|h
   ·rfl
   ·exact SG rs u h
def Ak(w:μ)(B:Nat)(v:Value)(rs:List RV):Prop:=w.ownsRow B 73 2 v rs.length (cellsR rs)
def Ak.nil(w:μ)(B:Nat):Ak w B (α none 0 0) []:=World.ownsRow_nil _ _ _ _
def Ak.cellAt(h:Ak w B (α (β ⟨g,0,δ⟩) n c) rs){j:Nat}{u:Value}(b:(cellsR rs)[j]? =β u):w.cell? ⟨g,j,δ⟩=β u:=by
 have:=World.ownsRow.cells h (g:=g) rfl j u b;rwa[show(⟨g,0,δ⟩:Addr).add j=⟨g,j,δ⟩ by unfold Addr.add;split<;>simp_all]at this
def Ak.rows(h:Ak w B v rs)(p:Ae w rs):∃a c,v=α a rs.length c/\Aj w a rs.length rs/\rs.length<=c/\c<=9223372036854775807:=by
 have e:=h;rcases h.2 with⟨rfl,f⟩|⟨g,cap,j,rfl,r,u,o,m,q,ht⟩
 ·exact⟨δ,0,by rw[f],⟨rfl,fun i b=>by omega,.inl f⟩,by omega,by omega⟩
 ·refine⟨_,cap,rfl,⟨rfl,fun i b=>(p.get b).1,.inr ⟨g,0,rfl,fun i b=>?_⟩⟩,o,by simpa [maxLen]using m⟩
  rw[Nat.zero_add];exact⟨e.cellAt (In rs i b).1,e.cellAt (In rs i b).2⟩
def Ak.mono{B':Nat}(h:Ak w B v rs)(i:B'<=B):Ak w B' v rs:=by
 refine⟨h.1,?_⟩;rcases h.2 with e|⟨g,cap,b,f,j,r⟩
 ·exact .inl e
 ·exact .inr ⟨g,cap,b,f,υ i j,r⟩
def Ak.below(h:Ak w B v rs)(j:Below w.heap.size w w'):Ak w' B v rs:=by
 refine⟨h.1,?_⟩;rcases h.2 with f|⟨g,cap,e,i,m,b,r⟩
 ·exact .inl f
 ·exact .inr ⟨g,cap,e,i,m,(j.block g (Array.getElem?_eq_some_iff.1 b).1).trans b,r⟩
def RK{ops:Array Oper}{rest:List Oper}{o:Oper}{act:Act}{Q:Exit->Act->μ->Prop}(p:o.guard=δ)(s x:Operand)
  (K:o.op=.call {callee:=.builtin .append,args:=#[s,x],argTypes:=#[76,76]}) (B:Nat) (v:Value) (rs:List RV) (r:RV)
  (N:act.eval s=v) (O:act.eval x=α (β ⟨w.heap.size,0,δ⟩) 1 1) (h:Ak w B v rs) (m:B<=w.heap.size) (R:rs.length<=1048576)
  (H:∀E w',Ak w' B E (rs++[r])->w.grownBy w' v.ownBlock->Below B w w'->wpList ζ ops Q rest (act.put o.dst E) w'):wpList ζ ops Q (o::rest) act (w.alloc (.cells #[.slice r.a r.n r.c,ε r.s] 73)):=by
 obtain⟨P,I,z,A,C⟩:=info_parts Kx;have i:Below w.heap.size w (w.alloc (.cells #[.slice r.a r.n r.c,ε r.s] 73)):=(ν _ _).alloc (φ _) _;have D:(w.alloc (.cells #[.slice r.a r.n r.c,ε r.s] 73)).ownsRow B 73 2 v rs.length (cellsR rs):=h.below i
 refine wpList_append_own _ p s x 76 K B 73 P (.agg #[α none 0 0,ε ⟨#[]⟩]) 2 40 underlying76 I z A C rfl (by decide) v rs.length (cellsR rs) N D ⟨w.heap.size,0,δ⟩ 1 1 [.slice r.a r.n r.c,ε r.s] O rfl (fun j u q=>?_)
  (fun u y=>by rcases List.mem_cons.1 y with rfl|y<;>first|rfl|(rw[List.mem_singleton.1 y];rfl)) (by unfold maxLen;omega) (by omega) (υ m i.size) ?_
 ·have e:(⟨w.heap.size,0,δ⟩:Addr).add j=⟨w.heap.size,j,δ⟩:=by unfold Addr.add;split<;>simp_all
  rw[e,World.cell?_alloc_at _ _ _ _ rfl]
  match j with
  |0=>simpa using q
  |1=>simpa using q
  |j+2=>simp at q
 ·intro v' w' f b _
  refine H v' w' ?_ (Bx (CD i _) b (.inl rfl)) ((i.mono m).grown b (υ m i.size) fun k J=>(D.lt k J).1);rw[show cellsR rs++[.slice r.a r.n r.c,ε r.s]=cellsR (rs++[r]) by rw[Km];rfl]at f;show w'.ownsRow B 73 2 v' (rs++[r]).length (cellsR (rs++[r]));rw[σ];exact f
def AM(rs:List RV):List Nat:=rs.foldl (fun a r=>xorL a r.xs) []
def Uy(rs:List RV):∀a,rs.foldl (fun a r=>xorL a r.xs) a=xorL a (AM rs):=by
 induction rs with
 |nil=>intro a;exact(MH a).symm
 |cons r rs b=>
  intro a;show rs.foldl _ (xorL a r.xs)=xorL a (rs.foldl _ (xorL [] r.xs));rw[b,b (xorL [] r.xs),PC,ji]
def Ux(r:RV)(rs:List RV):AM (r::rs)=xorL r.xs (AM rs):=by
 show rs.foldl _ (xorL [] r.xs)=_;rw[Uy,PC]
def fk(ps bs:List RV):AM (ps++bs)=xorL (AM ps) (AM bs):=by
 unfold AM;rw[List.foldl_append];exact Uy bs _
def Pt(rs:List RV)(h:∀r∈rs,r.xs.length<=10):(AM rs).length<=10:=by
 induction rs with
 |nil=>simp[AM]
 |cons r rs e=>
  rw[Ux,BS];have f:=h r τ;have i:=e (fun r b=>h r (List.mem_cons_of_mem _ b));omega
def R1(rs:List RV)(q i:Nat)(h:i<q):(rs.take q).getD i .dflt=rs.getD i .dflt:=by
 simp[U,h]
def R0(rs:List RV)(q i:Nat):(rs.drop q).getD i .dflt=rs.getD (q+i) .dflt:=by
 simp[U,List.getElem?_drop]
def Aj.take(h:Aj w a n rs)(q:Nat)(m:q<=n):Aj w a q (rs.take q):=by
 refine⟨by rw[List.length_take,h.1];omega,fun i e=>by rw[R1 rs q i e];exact h.2.1 i (by omega),?_⟩;rcases h.2.2 with j|⟨b,off,rfl,f⟩
 ·exact .inl (by omega)
 ·exact .inr ⟨b,off,rfl,fun i e=>by rw[R1 rs q i e];exact f i (by omega)⟩
def Aj.drop{b off:Nat}(h:Aj w (β ⟨b,off,δ⟩) n rs)(q:Nat)(r:q<=n):Aj w (β ⟨b,off+q*2,δ⟩) (n-q) (rs.drop q):=by
 refine⟨by rw[List.length_drop,h.1],fun i m=>by rw[R0];exact h.2.1 _ (by omega),?_⟩;rcases h.2.2 with p|⟨o,f,e,j⟩
 ·exact .inl (by omega)
 ·simp only[θ,Addr.mk.injEq,and_true]at e
  obtain⟨rfl,rfl⟩:=e;refine .inr ⟨b,_,rfl,fun i m=>?_⟩;rw[R0,show off+q*2+i*2=off+(q+i)*2 from by omega];exact j (q+i) (by omega)
def Vq:(Tryz.prog.info? 73).map (fun i=>(i.size,i.bytes))=β (2,40):=by kernel_rfl
def Pn(w:μ):(sizeOf 73).run ζ w=.ok 2 w:=by
 cases h:Tryz.prog.info? 73 with
 |none=>have:=Vq;rw[h]at this;cases this
 |some i=>
  have:=Vq;rw[h]at this;simp only[Option.map_some,θ,Prod.mk.injEq]at this;simp[sizeOf,typeInfo,h,this.1]
def Jz:Tryz.prog.underlying 76=β (.slice (Tryz.prog.elem 76)):=by kernel_rfl
def Oq:Tryz.prog.elem 76=73:=by kernel_rfl
def rE(b off n c q:Nat)(h:q<=n)(f:q<c)(w:μ):
  (Instr.sliceAt 76 (α (β ⟨b,off,δ⟩) n c) (β (.int .i64 (q:Int))) none none).run ζ w=.ok (α (β ⟨b,off+q*2,δ⟩) (n-q) (c-q)) w:=by
 rw[run_sliceAt_slice _ _ _ _ _ _ Jz,run_slice_l _ _ _ _ _ Jz _ _ (by omega) (by omega),Oq,Pn];have e:¬c=q:=by omega
 simp[Result.andThen,sliced,e,Addr.add]
def VZ(b off n c q:Nat)(e:q<=c)(w:μ):
  (Instr.sliceAt 76 (α (β ⟨b,off,δ⟩) n c) none (β (.int .i64 (q:Int))) none).run ζ w=.ok (α (β ⟨b,off,δ⟩) q c) w:=by
 rw[run_sliceAt_slice _ _ _ _ _ _ Jz,run_slice_h _ _ _ _ _ Jz _ _ (by omega) (by omega),Oq,Pn];simp[Result.andThen,sliced,Addr.add]
def Yb(N:Nat):∀(a:Option Addr) (n c:Nat) (rs:List RV) (w:μ),n<=N->Aj w a n rs->(∀r∈rs,r.xs.length<=10)->n<=1048576->n<=c->c<=9223372036854775807->
  Calls ζ 305 #[α a n c] w fun e w'=> ∃v,e=.returned v/\Own w' w.heap.size v (AM rs)/\Below w.heap.size w w':=by
 induction N with
 |zero=>
  intro a n c rs w hN h H hn hc S;obtain rfl:n=0:=by omega
  obtain rfl:rs=[]:=κ h.1;go_enter func305,ntmps305;go_wp2;go_ret;exact⟨_,rfl,Own.nil _ _,ν _ _⟩
 |succ N ih=>
  intro a n c rs w hN h H hn hc S;by_cases h0:n=0
  ·subst h0
   obtain rfl:rs=[]:=κ h.1;go_enter func305,ntmps305;go_wp2;go_ret;exact⟨_,rfl,Own.nil _ _,ν _ _⟩
  by_cases h1:n=1
  ·subst h1
   obtain⟨r,rfl⟩:∃r,rs=[r]:=by
    match rs,h.1 with
    |[r],_=>exact⟨r,rfl⟩
   have x:=h.2.1 0 (by omega);obtain⟨b,off,rfl,j⟩:=h.at (i:=0) (by omega);obtain⟨ah,_⟩:=j 0 (by omega);have hl:=H r τ;have hv:=Ab (show xorL r.xs []=AM [r] from by rw[Ux];rfl);simp only[List.getD_cons_zero,Nat.zero_mul,Nat.add_zero]at x ah;have am:r.n<=10:=by rw[<-x.1];exact hl
   have HR:=Ab x;clear h j H x ih;go_enter func305,ntmps305;go_wp2_with fail;refine(Jf r.a r.n r.c r.xs none 0 0 [] _ (Aa HR) (C8 _) (by omega) (by omega)).mono ?_;rintro e w1 ⟨v,rfl,ho,hb⟩;rw[Aa hv]at ho;have HO:=Ab ho;have HB:=Ab hb;clear ho hb;go_wp2;go_ret;exact⟨_,rfl,Aa HO,Aa HB⟩
  have e0:((n:Int)==0)=false:=by simp;omega
  have e1:((n:Int)==1)=false:=by simp;omega
  obtain⟨q,hq⟩:∃q,n/2=q:=⟨_,rfl⟩;have aj:(n:Int)/2=(q:Int):=by omega
  have al:IntKind.i64.wrap ((n:Int).tdiv 2)=(q:Int):=by rw[Int.tdiv_eq_ediv_of_nonneg (by omega),aj,IntKind.wrap_i64];omega
  have W:q<=N:=by omega
  have X:n-q<=N:=by omega
  have C:q<=n:=by omega
  have ai:(q:Int)<=(c:Int):=by omega
  obtain⟨b,off,rfl,j⟩:=h.at (i:=0) (by omega);have f:=(ν w.heap.size w).drew;have HT:=Ab ((h.take q C).below f);have HD:=Ab ((h.drop q C).below f);have ae:=Ab f;have u:q<=c:=by omega
  have an:=VZ b off n c q u;have ao:=rE b off n c q C (by omega);have Y:q<=1048576:=by omega
  have Z:n-q<=1048576:=by omega
  have aa:n-q<=c-q:=by omega
  have ab:c-q<=9223372036854775807:=by omega
  have E:Hid (∀r∈rs.take q,r.xs.length<=10):=Ab (fun r x=>H r (List.mem_of_mem_take x));have D:Hid (∀r∈rs.drop q,r.xs.length<=10):=Ab (fun r x=>H r (List.mem_of_mem_drop x));have HV:=Ab (show xorL (AM (rs.take q)) (AM (rs.drop q))=AM rs from by rw[<-fk,ς]);have I:Hid ((AM (rs.take q)).length<=1048576):=Ab (by have:=Pt _ (Aa E);omega);have J:Hid ((AM (rs.drop q)).length<=1048576):=Ab (by have:=Pt _ (Aa D);omega);have KA:=Ab (ih (β ⟨b,off,δ⟩) q c (rs.take q) w.drew W (Aa HT) (Aa E) Y u S)
  have KB:Hid (∀w1,Below w.drew.heap.size w.drew w1->Calls ζ 305 #[α (β ⟨b,off+q*2,δ⟩) (n-q) (c-q)] w1 fun e w'=> ∃v,e=.returned v/\Own w' w1.heap.size v (AM (rs.drop q))/\Below w1.heap.size w1 w'):=
   Ab (fun w1 hb=>ih (β ⟨b,off+q*2,δ⟩) (n-q) (c-q) (rs.drop q) w1 X ((Aa HD).below hb) (Aa D) Z aa ab)
  clear h j H ih hq ai f HT HD E D Y Z aa ab W X;go_enter func305,ntmps305;go_wp2_with fail;refine wp_region_any (by kernel_rfl) ?_;change wpAny _ _ _ _ _ _ _ (World.drew _);refine wpAny_take (i:=0) (v:=?_) rfl (by kernel_rfl) (by kernel_rfl) (by kernel_rfl) (fun _ _ _ h=>h) (Or.inl ⟨by rfl,?f0⟩) ?_
  case f0=>(intro w;go_simp;try with_reducible rfl)
  refine wpAny_take (i:=1) (v:=?_) rfl (by kernel_rfl) (by kernel_rfl) (by kernel_rfl) (fun _ _ _ h=>h) (Or.inl ⟨by rfl,?f1⟩) ?_
  case f1=>(intro w;go_simp;try with_reducible rfl)
  refine wpAny_take (i:=2) (v:=?_) rfl (by kernel_rfl) (by kernel_rfl) (by kernel_rfl) (fun _ _ _ h=>h) (Or.inl ⟨by rfl,?f2⟩) ?_
  case f2=>(intro w;go_simp;try with_reducible rfl)
  refine wpAny_take (i:=4) (v:=?_) rfl (by kernel_rfl) (by kernel_rfl) (by kernel_rfl) (fun _ _ _ h=>h) (Or.inl ⟨by rfl,?f4⟩) ?_
  case f4=>(intro w;go_simp;try with_reducible rfl)
  refine wpAny_take (i:=5) (v:=?_) rfl (by kernel_rfl) (by kernel_rfl) (by kernel_rfl) (fun _ _ _ h=>h) (Or.inl ⟨by rfl,?f5⟩) ?_
  case f5=>(intro w;go_simp;try with_reducible rfl)
  refine wpAny_take (i:=6) (v:=?_) rfl (by kernel_rfl) (by kernel_rfl) (by kernel_rfl) (fun _ _ _ h=>h) (Or.inl ⟨by rfl,?f6⟩) ?_
  case f6=>(intro w;go_simp;try with_reducible rfl)
  refine wpAny_ready (rs:=[3]) (by kernel_rfl) (by simp) ?_;refine AllReady.cons rfl (fun K p=>?_) AllReady.nil;go_simp;refine(Aa KA).mono ?_;rintro e w1 ⟨v1,rfl,T,Q⟩;obtain⟨a1,c1,rfl,ac⟩:=T.row;have O:=Ab ac;have y:=Ab Q;clear T ac Q KA;refine p _ _ ?_;clear p K;refine wpAny_ready (rs:=[7]) (by kernel_rfl) (by simp) ?_;refine AllReady.cons rfl (fun K p=>?_) AllReady.nil;go_simp;refine(Aa KB _ (Aa y)).mono ?_;rintro e w2 ⟨v2,rfl,V,A⟩;obtain⟨a2,c2,rfl,ad⟩:=V.row;have P:=Ab ad;have o:=Ab ((Aa O).below A);have z:=Ab (Ad (Ad (Aa ae) (Aa y)) A);clear V ad A y O KB;refine p _ _ ?_;clear p K;refine wpAny_ready (rs:=[8]) (by kernel_rfl) (by simp) ?_;refine AllReady.cons rfl (fun K p=>?_) AllReady.nil;go_simp;refine(Jf _ _ _ _ _ _ _ _ _ (Aa o) (Aa P) (Aa I) (Aa J)).mono ?_;rintro e w3 ⟨v3,rfl,m,R⟩;rw[Aa HV]at m;have ag:=Ab (m.mono (Aa z).size);have af:=Ab (Ad (Aa z) R);obtain⟨a3,c3,rfl,ak⟩:=m.row;clear m R ak P o z HV I J;refine p _ _ ?_;clear p K;refine wpAny_take (i:=9) (v:=?_) rfl (by kernel_rfl) (by kernel_rfl) (by kernel_rfl) (fun _ _ _ h=>h) (Or.inl ⟨by rfl,?f9⟩) ?_
  case f9=>(intro w;go_simp;try with_reducible rfl)
  refine wpAny_done (by kernel_rfl) ?_ _;go_wp2;go_ret;exact⟨_,rfl,Aa ag,Aa af⟩
def core(r:RV):List Nat×ByteArray:=(r.xs,r.s)
def CU(w:μ)(B:Nat)(ts:List RV):Prop:=∀r∈ts,r.n=0\/∃b off,r.a=β ⟨b,off,δ⟩/\(b<B\/∃e m,w.heap[b]? =β (.cells e 265 m))
def CU.nil(w:μ)(B:Nat):CU w B []:=fun r b=>by cases b
def CU.below(h:CU w B ts)(p:Below w.heap.size w w'):CU w' B ts:=fun r q=>by
 rcases h r q with j|⟨b,off,e,o|⟨f,m,i⟩⟩
 ·exact .inl j
 ·exact .inr ⟨b,off,e,.inl o⟩
 ·exact .inr ⟨b,off,e,.inr ⟨f,m,(p.block b (Array.getElem?_eq_some_iff.1 i).1).trans i⟩⟩
def CU.append{us:List RV}(h:CU w B ts)(k:CU w B us):CU w B (ts++us):=fun r b=>(List.mem_append.1 b).elim (h r) (k r)
def Ak.lt'(h:Ak w B v rs){k:Nat}(b:v.ownBlock=β k):B<=k/\k<w.heap.size:=World.ownsRow.lt h k b
def Ak.blk(h:Ak w B v rs)(e:v.ownBlock=β g):∃b,w.heap[g]? =β (.cells b 73 (0,0)):=by
 rcases h.2 with⟨rfl,_⟩|⟨g',cap,b,rfl,_,f,_⟩
 ·cases e
 ·simp only[Value.ownBlock,θ]at e
  exact⟨b,by rw[<-e];exact f⟩
def Ra{b:Nat}(j:Ak w B v rs)(h:b<B\/∃f m,w.heap[b]? =β (.cells f 265 m)):β b≠v.ownBlock:=fun e=>by
 obtain⟨f,o⟩:=j.blk e.symm;rcases h with h|⟨i,m,h⟩
 ·have:=(j.lt' e.symm).1;omega
 ·rw[o]at h
  simp only[θ,Obj.cells.injEq]at h;exact absurd h.2.1 (by decide)
def CU.pushed(h:CU w B ts)(u:Ak w B v rs)(q:w.grownBy w' v.ownBlock):CU w' B ts:=fun r x=>by
 rcases h r x with p|⟨b,off,e,f⟩
 ·exact .inl p
 ·have j:=Ra u f
  rcases f with f|⟨i,m,o⟩
  ·exact .inr ⟨b,off,e,.inl f⟩
  ·exact .inr ⟨b,off,e,.inr ⟨i,m,(q.block b (Array.getElem?_eq_some_iff.1 o).1 j).trans o⟩⟩
def Ae.pushed(h:Ae w ts)(ht:CU w B ts)(p:Ak w B v rs)(o:w.grownBy w' v.ownBlock):Ae w' ts:=fun r i=>⟨by
 refine(h r i).1.kept o ?_;rcases ht r i with j|⟨b,off,e,m⟩
 ·exact .inl j
 ·refine .inr fun q f=>?_
  rw[e]at f;simp only[θ]at f;subst f;exact Ra p m,(h r i).2⟩
def CU.own{B':Nat}{xs:List Nat}{s:ByteArray}(h:Own w B' (α a n c) xs):CU w B [⟨a,n,c,xs,s⟩]:=fun r i=>by
 rw[List.mem_singleton.1 i];rcases h.2.2 with⟨e,j⟩|⟨g,cap,b,e,_,f,_⟩
 ·simp only[η]at e
  exact .inl e.2.1
 ·simp only[η]at e
  exact .inr ⟨g,0,e.1,.inr ⟨b,_,f⟩⟩
def Eo(w wr:μ)(b:Option Addr)(e c1:Nat)(L:List (List Nat×ByteArray))(ts:List RV):Prop:=
 Ak wr w.heap.size (α b e c1) ts/\Ae wr ts/\CU wr w.heap.size ts/\ts.map core=L/\Below w.heap.size w wr
def Eo.nil(w:μ):Eo w w none 0 0 [] []:=⟨Ak.nil _ _,Ae.nil _,CU.nil _ _,rfl,ν _ _⟩
def Eo.below{w1:μ}{e:Option Addr}{f c1:Nat}(h:Eo w wr e f c1 L ts)(b:Below wr.heap.size wr w1):Eo w w1 e f c1 L ts:=⟨h.1.below b,h.2.1.below b,h.2.2.1.below b,h.2.2.2.1,Ad h.2.2.2.2 b⟩
def Eo.push{w1:μ}{f:Option Addr}{q c1:Nat}{r:RV}{x:Value}(h:Eo w wr f q c1 L ts)(D:Ae wr [r])(ht:CU wr w.heap.size [r])(p:Ak w1 w.heap.size x (ts++[r]))(o:wr.grownBy w1 (ρ f q c1).ownBlock)(C:Below w.heap.size wr w1):
  ∃b u c2,x=α b u c2/\Eo w w1 b u c2 (L++[core r]) (ts++[r]):=by
 obtain⟨i,y,j,z,A⟩:=h;have m:=(y.append D).pushed (j.append ht) i o;obtain⟨b,c2,e,_⟩:=p.rows m;exact⟨b,_,c2,e,by rw[<-e];exact p,m,(j.append ht).pushed i o,by rw[List.map_append,z];rfl,A.trans C⟩
def kK(ks:List RV)(k:Nat)(b:k<ks.length):ks.take k++[ks.getD k .dflt]=ks.take (k+1):=by
 rw[ι b];simp[U,γ b]
def Ak.shape(h:Ak w B v rs):∃a c,v=α a rs.length c:=by
 rcases h.2 with⟨rfl,e⟩|⟨g,cap,b,rfl,_⟩
 ·exact⟨δ,0,by rw[e]⟩
 ·exact⟨_,cap,rfl⟩
def Ak.at'{m:Nat}(h:Ak w B (α a m c) ts)(j:Ae w ts):Aj w a m ts/\m=ts.length/\m<=c/\c<=9223372036854775807:=by
 obtain⟨o,p,e,b,f,i⟩:=h.rows j;simp only[η]at e;obtain⟨rfl,rfl,rfl⟩:=e;exact⟨b,rfl,f,i⟩
def SP(m:Ae w ts)(h:ts.map core=L)(e:∀x∈L,x.1.length<=10/\x.2.size<=1000):Af ts:=fun i=>by
 by_cases b:i<ts.length
 ·have j:core (ts.getD i .dflt)∈L:=by
   rw[<-h,U,γ b];exact List.mem_map.2 ⟨_,List.getElem_mem b,rfl⟩
  have:=e _ j;have f:=(m.get b).1.1;exact⟨by rw[<-f];exact this.1,this.2⟩
 ·rw[U,List.getElem?_eq_none (by omega)]
  exact⟨π _,π _⟩
def L5:Af []:=fun i=>⟨π _,π _⟩
def zR:RV:=⟨δ,0,0,[],⟨#[]⟩⟩
def BK(us:List RV)(k:Nat):List RV:=us.take k++ο (us.length-k) zR
def OF(us:List RV):BK us 0=ο us.length zR:=by simp[BK]
def Pv(us:List RV):BK us us.length=us:=by simp[BK]
def NR(us:List RV)(k:Nat)(b:k<=us.length):(BK us k).length=us.length:=by simp[BK];omega
def OE(us:List RV)(k:Nat)(b:k<us.length):(BK us k).set k (us.getD k .dflt)=BK us (k+1):=by
 unfold BK;have e:(us.take k).length=k:=by simp;omega
 rw[List.set_append_right _ _ (by omega),e,Nat.sub_self,ι b,List.append_assoc,show us.length-k=(us.length-(k+1))+1 by omega,List.replicate_succ,List.set_cons_zero];simp[U,γ b]
def Sm:∀(rs:List RV) (k:Nat) (r:RV),((cellsR rs).set (k*2) (.slice r.a r.n r.c)).set (k*2+1) (ε r.s)=cellsR (rs.set k r)
 |[],k,r=>by simp[cellsR]
 |x::rs,0,r=>by simp[cellsR]
 |x::rs,k+1,r=>by
  rw[show(k+1)*2=k*2+1+1 by omega];simp only[cellsR,List.set_cons_succ];rw[Sm rs k r]
def RT:∀n:Nat,(madeCells #[α none 0 0,ε ⟨#[]⟩] (n*2)).toList=cellsR (ο n zR)
 |0=>by simp[madeCells,cellsR]
 |n+1=>by
  rw[List.replicate_succ',Km,<-RT n];unfold madeCells;rw[show(n+1)*2=n*2+1+1 by omega];simp only[Array.toList_map,Array.toList_range];rw[List.range_succ,List.range_succ];simp[cellsR,zR,Nat.mul_mod_left]
def Nd(n:Nat)(j:n<=1048576)(wx:μ):(Instr.makeSlice 76 (.int .i64 (n:Int)) (.int .i64 (n:Int))).run ζ wx=.ok (α (β ⟨wx.heap.size,0,δ⟩) n n) (wx.alloc (.cells (madeCells #[α none 0 0,ε ⟨#[]⟩] (n*2)) 73)):=by
 obtain⟨i,b,e,h,f⟩:=info_parts Kx;have:=run_make (P:=ζ) wx 76 73 i (.agg #[α none 0 0,ε ⟨#[]⟩]) underlying76 b e .i64 .i64 (n:Int) (n:Int) (by omega) (Int.le_refl _) (by rw[f];omega) (by omega);rw[h]at this;simpa [Value.cells]using this
def Nc(w:μ)(n:Nat)(e:n<=1048576)(rs:List RV)(b:rs=ο n zR):Ak (w.alloc (.cells (madeCells #[α none 0 0,ε ⟨#[]⟩] (n*2)) 73)) w.heap.size (α (β ⟨w.heap.size,0,δ⟩) n n) rs:=by
 subst b;refine⟨LK _,.inr ⟨w.heap.size,n,madeCells #[α none 0 0,ε ⟨#[]⟩] (n*2),by simp,φ _,heap_alloc_new w _,by simp,by unfold maxLen;omega,by simp[size_madeCells],?_⟩⟩;rw[RT,List.take_of_length_le (by rw[LK];exact φ _)]
def Ak.stored{cap:Nat}(h:Ak w B (α (β ⟨g,0,δ⟩) n cap) rs)(k:Nat)(r:RV):
  Ak ((w.setCell ⟨g,k*2,δ⟩ (.slice r.a r.n r.c)).setCell ⟨g,k*2+1,δ⟩ (ε r.s)) B (α (β ⟨g,0,δ⟩) n cap) (rs.set k r):=by
 obtain rfl:n=rs.length:=by
  rcases h.2 with⟨e,_⟩|⟨j,b,f,e,_⟩
  ·cases e
  ·simp only[η]at e;exact e.2.1
 have i:w.ownsRow B 73 2 (α (β ⟨g,0,δ⟩) rs.length cap) rs.length (cellsR rs):=h;have:=((i.stored (k*2) (.slice r.a r.n r.c)).1.stored (k*2+1) (ε r.s)).1;rw[Sm]at this;show World.ownsRow _ B 73 2 _ (rs.set k r).length _;rw[List.length_set];exact this
def Ak.keptB(h:Ak w B v rs)(b:w.grownBy w' (β g))(f:g<B):Ak w' B v rs:=by
 refine World.ownsRow.kept h b (.inr fun e=>?_);have:=(World.ownsRow.lt h g e).1;omega
def RF{ops:Array Oper}{rest:List Oper}{o:Oper}{act:Act}{Q:Exit->Act->μ->Prop}(e:o.guard=δ)(s x:Operand)
  (A:o.op=.call {callee:=.builtin .append,args:=#[s,x],argTypes:=#[76,76]}) (B B':Nat) (v I:Value) (ts us:List RV)
  (C:act.eval s=v) (D:act.eval x=I) (h:Ak w B v ts) (u:B<=w.heap.size) (r:Ak w B' I us) (V:ts.length+us.length<=1048576)
  (y:∀H w',Ak w' B H (ts++us)->Below B w w'->wpList ζ ops Q rest (act.put o.dst H) w'):wpList ζ ops Q (o::rest) act w:=by
 obtain⟨E,z,m,p,q⟩:=info_parts Kx;have i:=r;rcases r.2 with⟨rfl,K⟩|⟨g,cap,J,rfl,R,S,O,T,P,ht⟩
 ·have j:us=[]:=κ K
  subst j;refine wpList_append_own_none e s x 76 A B 73 E 2 underlying76 z v ts.length (cellsR ts) C h D ?_;exact y v w (by rw[List.append_nil];exact h) (ν _ _)
 ·refine wpList_append_own _ e s x 76 A B 73 E (.agg #[α none 0 0,ε ⟨#[]⟩]) 2 40 underlying76 z m p q rfl (by decide) v ts.length (cellsR ts) C h ⟨g,0,δ⟩ us.length cap (cellsR us) D (LK us) (World.ownsRow.cells i (g:=g) rfl) (SG us) (by unfold maxLen;omega) (by omega) u ?_
  intro v' w' f b _;refine y v' w' ?_ ((ν _ _).grown b u fun k N=>(World.ownsRow.lt h k N).1);show w'.ownsRow B 73 2 v' (ts++us).length (cellsR (ts++us));rw[σ,Km];exact f
variable {l:List Int}{k d s:Nat}
def sumZ:List Int->Nat
 |[]=>0
 |x::r=>x.toNat+sumZ r
def N5:∀(a b:List Int),sumZ (a++b)=sumZ a+sumZ b
 |[],b=>by simp[sumZ]
 |x::a,b=>by simp only[List.cons_append,sumZ,N5 a b];omega
def O3(l:List Int)(k:Nat)(b:k<l.length):sumZ (l.take (k+1))=sumZ (l.take k)+(l.getD k 0).toNat:=by
 rw[ι b,N5];simp[sumZ,U,γ b]
def N0(l:List Int)(k:Nat):sumZ (l.take k)<=sumZ l:=by
 have h:=N5 (l.take k) (l.drop k);rw[ς]at h;omega
def Xm(M:Nat):∀(l:List Int),(∀x∈l,x<=(M:Int))->sumZ l<=l.length*M
 |[],_=>by simp[sumZ]
 |x::r,h=>by
  have e:=Xm M r (fun y b=>h y (by simp[b]));have f:=h x (by simp);simp only[sumZ,List.length_cons,Nat.add_mul,Nat.one_mul];omega
def Ez:List Int->Nat->Nat->Nat
 |[],_,_=>0
 |y::r,j,x=>if x<y.toNat then j+1 else Ez r (j+1) (x-y.toNat)
def RE(l:List Int)(k:Nat)(b:k<l.length):l.drop k=l.getD k 0::l.drop (k+1):=by
 rw[List.drop_eq_getElem_cons b];simp[U,γ b]
def mh(l:List Int)(k x:Nat)(b:k<l.length)(h:x<(l.getD k 0).toNat):Ez (l.drop k) k x=k+1:=by
 rw[RE l k b,Ez,if_pos h]
def sQ(l:List Int)(k x:Nat)(b:k<l.length)(h:¬x<(l.getD k 0).toNat):Ez (l.drop k) k x=Ez (l.drop (k+1)) (k+1) (x-(l.getD k 0).toNat):=by
 rw[RE l k b,Ez,if_neg h]
def mg(l:List Int)(j x:Nat):Ez (l.drop l.length) j x=0:=by simp[Ez]
def Wt:∀(l:List Int) (j x:Nat),x<sumZ l->j+1<=Ez l j x/\Ez l j x<=j+l.length
 |[],j,x,h=>by simp[sumZ]at h
 |y::r,j,x,h=>by
  simp only[sumZ]at h;simp only[Ez,List.length_cons];by_cases b:x<y.toNat
  ·rw[if_pos b];omega
  ·rw[if_neg b]
   have:=Wt r (j+1) (x-y.toNat) (by omega);omega
def pickD(l:List Int)(b:Nat):Nat:=if sumZ l=0 then 0 else Ez l 0 (b%sumZ l)
def ir(h:sumZ l=0)(b:Nat):pickD l b=0:=if_pos h
def Tk(h:sumZ l≠0)(b:Nat):pickD l b=Ez l 0 (b%sumZ l):=if_neg h
def sP(h:sumZ l≠0)(b:Nat):1<=pickD l b/\pickD l b<=l.length:=by
 rw[Tk h];have:=Wt l 0 (b%sumZ l) (Nat.mod_lt _ (by omega));omega
def baseN(k d:Nat):Nat:=if d=1 then 1048576/k else 1048576/(d*(d-1))
def moreN(k s d:Nat):Nat:=if s=0 then 0 else if d<k/s then 1048576*s/(k*d)else if d=k/s then 1048576*s*bitLen s/k else 0
def Hw(k s d:Nat):Nat:=max 1 (baseN k d+moreN k s d)
def tableL(k s:Nat):List Int:=(List.range k).map fun i=>((Hw k s (i+1):Nat):Int)
def jb(k:Nat):baseN k 1=1048576/k:=if_pos rfl
def gl(h:d≠1):baseN k d=1048576/(d*(d-1)):=if_neg h
def iV(k d:Nat):moreN k 0 d=0:=if_pos rfl
def jZ(b:s≠0)(h:d<k/s):moreN k s d=1048576*s/(k*d):=by rw[moreN,if_neg b,if_pos h]
def iX(b:s≠0)(h:d=k/s):moreN k s d=1048576*s*bitLen s/k:=by rw[moreN,if_neg b,if_neg (by omega),if_pos h]
def iW(b:s≠0)(h:k/s<d):moreN k s d=0:=by rw[moreN,if_neg b,if_neg (by omega),if_neg (by omega)]
def Vw(k d:Nat):baseN k d<=1048576:=by
 unfold baseN;split
 ·exact ξ _ _
 ·exact ξ _ _
def Wm(k s d:Nat)(e:s<=128):moreN k s d<=1073741824:=by
 unfold moreN;have b:=bitLen_le8 s (by omega);have f:1048576*s*bitLen s<=1048576*128*8:=Nat.mul_le_mul (Nat.mul_le_mul_left _ e) b;have h:=ξ (1048576*s*bitLen s) k;have i:=ξ (1048576*s) (k*d);split
 ·omega
 ·split
  ·omega
  ·split
   ·omega
   ·omega
def UW(k s d:Nat)(b:s<=128):1<=Hw k s d/\Hw k s d<=1074790400:=by
 have e:=Vw k d;have f:=Wm k s d b;unfold Hw;omega
def Hf(k s:Nat):(tableL k s).length=k:=by simp[tableL]
def Ob(k s i:Nat)(h:i<k):(tableL k s).getD i 0=((Hw k s (i+1):Nat):Int):=by
 simp[tableL,U,h]
def kI(k s:Nat)(f:k<=128)(b:s<=128):sumZ (tableL k s)<=137573171200:=by
 have:=Xm 1074790400 (tableL k s) (fun x e=>by
  obtain⟨i,_,rfl⟩:=List.mem_map.1 e;have:=(UW k s (i+1) b).2;omega)
 rw[Hf]at this;omega
def kH(k s:Nat)(h:1<=k)(e:s<=128):sumZ (tableL k s)≠0:=by
 have b:=O3 (tableL k s) 0 (by rw[Hf];omega);have f:=N0 (tableL k s) (0+1);rw[Ob k s 0 (by omega)]at b;have:=(UW k s (0+1) e).1;omega
end Go.Proofs.YtfpmnekaockodaaGreatDoor
