/- Laws for the proof. -/
import Derived.Test.YtfpmnekaockodaaGreatDoorU5
import Derived.Deep.LoopGhost
set_option linter.all false
open Go.Proofs.Tryz
open List renaming getD_eq_getElem?_getD->U,getElem?_eq_getElem->α,range->κ,length_set->ν,filter_append->π,filter_cons->ς,range_succ->τ,map_append->υ,filter_nil->φ,length_map->χ,map_nil->ψ,length_filter_le->ω,replicate->Α
open Go.Value renaming string->β,slice->γ,string->μ
open Option.some renaming injEq->δ
open Option renaming none->ε,some->ξ,getD_some->Β
open Int renaming toNat_natCast->ζ
open Go.World renaming cell?_setCell_other->η,cell?_setCell_same->ο
open Go.Obj renaming cells->θ
open Go.Obj.cells renaming injEq->ι
open Go.Proofs.Tryz renaming prog->ρ
open Go renaming World->σ
namespace Go.Proofs.YtfpmnekaockodaaGreatDoor
open Go.RowKit Go.Sort
set_option maxRecDepth 4000
set_option maxHeartbeats 8000000
variable {k:Int}{ss bs:List ByteArray}{kn:List Nat}{rs:List RV}{B n m g:Nat}{S:Nat->Bool}{cs:Nat->List Nat}{w:σ}
def Ar.at'{a:Option Addr}{c:Nat}(h:Ar w B (γ a n c) ss):n=ss.length/\AG w a ss.length ss:=by
 obtain⟨d,c1,e,b⟩:=h.texts;simp only[Value.slice.injEq]at e;obtain⟨rfl,rfl,rfl⟩:=e;exact⟨rfl,b⟩
def V9(B:Nat)(v:PV)(kn:List Nat)(bs:List ByteArray)(rs:List RV)(p:Nat)(w:σ)(h:AZ w B v kn bs)(A:Aj w v.a v.n rs)(J:Af rs)(hp:p<v.n)(T:v.n<=1048576)(I:shorts bs)(C:bs.length<=1048576):
  Calls ρ 307 #[.pointer (ξ ⟨v.g,0,ε⟩),.int .i64 (p:Int)] w fun e w'=>e=.returned (β (Dw bs (rs.getD p .dflt).xs (rs.getD p .dflt).s))/\Below w.heap.size w w':=by
 obtain⟨g,a,n,c,kg,kc,bg,bc,bm⟩:=v;simp only at*;obtain⟨b,off,rfl,o⟩:=A.at hp;obtain⟨N,O⟩:=o p hp;have f:=A.2.1 p hp;have Q:=J p;obtain⟨Z,x1,R,x3⟩:=h.cells;have l:=h.blocks.at'.2;have q:=h.lt;have P:(p:Int)<(n:Int):=by omega
 generalize rs.getD p .dflt=r at*;have d:Below w.heap.size w (w.alloc (θ #[.slice r.a r.n r.c,β r.s] 73)):=(Below.refl _ _).alloc (Nat.le_refl _) _;have E:=GT w (.slice r.a r.n r.c) (β r.s);have u:(st (Bl bs r.xs bs.length)).size<=1048576:=by rw[Xx (I4 _ _ _)];exact PX bs r.xs I _
 have V:=cell_regrown E.1;have X:=cell_regrown E.2;have Y:=cell_regrown ((d.cell (p:=⟨g,2,ε⟩) q).trans R);have z:=Cf (W:=w.alloc (θ #[.slice r.a r.n r.c,β r.s] 73)) (fun w' i=>QE (ξ ⟨bg,0,ε⟩) bs.length bc bs r.a r.n r.c r.xs w' ((l.below d).below i) I C ((f.below d).below i) (by omega));have j:=Cf (W:=w.alloc (θ #[.slice r.a r.n r.c,β r.s] 73)) (fun w' i=>bM r.s (st (Bl bs r.xs bs.length)) w' (by omega) u);have B1:=Ab d;clear o A J f l E u d h q;go_enter func307,ntmps307;go_wp2_with fail;refine wp_region_quiet_below (by kernel_rfl) (by kernel_rfl) ?_
 repeat (with_reducible refine wpQuiet_step (fun K y=>?_);go_simp;first|(with_reducible refine y _ ?_;clear y K)|(apply Exists.intro;apply And.intro;(intro _;first|(go_at_call 198;exact z _ _)|(go_at_call 315;exact j _ _));with_reducible refine y _ ?_;clear y K))
 refine wpQuiet_nil ?_;intro _ D;obtain⟨⟨L,H⟩,x⟩:=D;subst x;go_wp2;go_ret;exact⟨rfl,Ad (Aa B1) (below_regrown _ L H)⟩
def toldTo(k:Int)(kn:List Nat)(bs:List ByteArray)(m:Nat):List (List Nat×ByteArray):=((κ m).filter fun b=>Ah kn b).map fun(b:Nat)=>(unitL k (b:Int),bs.getD b ByteArray.empty)
def kP(h:Ah kn m=true):toldTo k kn bs (m+1)=toldTo k kn bs m++[(unitL k (m:Int),bs.getD m ByteArray.empty)]:=by
 unfold toldTo;rw[τ,π,υ];simp only[ς,φ,h,if_true,List.map_cons,ψ]
def ng(h:Ah kn m=false):toldTo k kn bs (m+1)=toldTo k kn bs m:=by
 unfold toldTo;rw[τ,π,υ];simp only[ς,φ,h,Bool.false_eq_true,if_false,ψ,List.append_nil]
def SW(k:Int)(kn:List Nat)(bs:List ByteArray)(m:Nat):(toldTo k kn bs m).length<=m:=by
 unfold toldTo;rw[χ];have:=ω (fun b=>Ah kn b) (κ m);simpa using this
def XQ(B:Nat)(v:PV)(kn:List Nat)(bs:List ByteArray)(w:σ)(h:AZ w B v kn bs)(ai:bs.length<=1048576)(ae:kn.length<=1048576):
  Calls ρ 280 #[.pointer (ξ ⟨v.g,0,ε⟩)] w fun e w'=> ∃f l c1 q,e=.returned (γ f l c1)/\Eo w w' f l c1 (toldTo (bs.length:Int) kn bs bs.length) q:=by
 obtain⟨g,a,n,c,kg,kc,bg,bc,bm⟩:=v;simp only at*;obtain⟨X,Y,T,Z⟩:=h.cells;simp only at X Y T Z;have H:=Ab h;clear h;go_enter func280,ntmps280;go_wp2;go_loopw [3,11] (fun o i wr=> ∃k:Nat,∃f:Option Addr,∃l c1:Nat,∃q:List RV,k<=bs.length/\i=.int .i64 k/\o=γ f l c1/\Hid (Eo w wr f l c1 (toldTo (bs.length:Int) kn bs k) q)) (fun _ i _=>bs.length-(intOf i).toNat)
 case atStart=>exact⟨0,ε,0,0,[],Nat.zero_le _,rfl,rfl,Ab (Eo.nil w)⟩
 case round=>
  obtain⟨k,f,l,c1,q,hk,rfl,rfl,z⟩:=hrel;clear X Y T Z;by_cases O:k<bs.length
  ·have E:=(Aa H).below (Aa z).2.2.2.2
   obtain⟨X,Y,T,Z⟩:=E.cells;simp only at X Y T Z;obtain⟨b9,ah,e9,K⟩:=(E.blocks.at'.2).at O;simp only[δ,Addr.mk.injEq,and_true]at e9;obtain⟨rfl,rfl⟩:=e9;have ac:=K k O;rw[Nat.zero_add]at ac;have ag:(k:Int)<(bs.length:Int):=by omega
   have d:=Ab (Vm (ξ ⟨kg,0,ε⟩) kn.length kc kn k wr E.known.at'.2 ae (by omega));have x:=Ab (fun h=>kP (k:=(bs.length:Int)) (kn:=kn) (bs:=bs) (m:=k) h);have u:=Ab (fun h=>ng (k:=(bs.length:Int)) (kn:=kn) (bs:=bs) (m:=k) h);have N:=E.lt;simp only at N;have af:q.length<=1048576:=by
    have:=congrArg List.length (Aa z).2.2.2.1;rw[χ]at this;have:=SW (bs.length:Int) kn bs k;omega
   clear E K;generalize bs.getD k ByteArray.empty=t at*;cases j:Ah kn k
   ·rw[j]at d
    have V:=Ab (Aa u j);clear x u;go_wp2_with (go_at_call 238;refine(Aa d).mono ?_;rintro e w1 ⟨rfl,b⟩;have r:=Ab b;clear b);go_roundw
    case rel=>exact⟨k+1,f,l,c1,q,by omega,by go_num,rfl,Ab (by rw[Aa V];exact(Aa z).below (Aa r))⟩
    case measure=>simp[intOf];omega
   ·rw[j]at d
    have V:=Ab (Aa x j);have C:=Ab (fun w1=>We (bs.length:Int) (k:Int) w1 (by omega));clear x u;obtain⟨W,R⟩:∃W,W=unitL (bs.length:Int) (k:Int):=⟨_,rfl⟩;rw[<-R]at V C;clear R;go_wp2_with (first|(go_at_call 238;refine(Aa d).mono ?_;rintro e w1 ⟨rfl,b⟩;have z2:=(b.cell (p:=⟨g,2,ε⟩) N).trans T;have r:=Ab b;clear b)|(go_at_call 258;refine(Aa C _).mono ?_;rintro e w2 ⟨v2,rfl,y,I⟩;obtain⟨a2,c2,rfl,Q⟩:=y.row;have A:=Ab y;have ab:=Ab Q;have s:=Ab ((Aa z).below (Ad (Aa r) I));clear y I Q)|(at_builtin;refine RK rfl (.tmp 22) (.tmp 32) rfl w.heap.size (γ f l c1) q ⟨a2,W.length,c2,W,t⟩ rfl rfl (Aa s).1 (Aa s).2.2.2.2.size af ?_;intro v3 w3 P L J;obtain⟨a3,m3,c3,rfl,D⟩:=(Aa s).push (Ae.one (Aa ab) (Aa A).cap) (CU.own (Aa A)) P L J;have aa:=Ab D;clear P L J D));go_roundw
    case rel=>exact⟨k+1,a3,m3,c3,_,by omega,by go_num,rfl,Ab (by rw[Aa V];exact Aa aa)⟩
    case measure=>simp[intOf];omega
  ·have ad:k=bs.length:=by omega
   subst ad;go_wp2;go_ret;exact⟨f,l,c1,q,rfl,Aa z⟩
def Fr(S:Nat->Bool)(cs:Nat->List Nat)(bs:List ByteArray)(rs:List RV)(m:Nat):List (List Nat×ByteArray):=((κ m).filter fun p=>S p).map fun(p:Nat)=>(cs p,Dw bs (rs.getD p .dflt).xs (rs.getD p .dflt).s)
def iR(h:S m=true):Fr S cs bs rs (m+1)=Fr S cs bs rs m++[(cs m,Dw bs (rs.getD m .dflt).xs (rs.getD m .dflt).s)]:=by
 unfold Fr;rw[τ,π,υ];simp only[ς,φ,h,if_true,List.map_cons,ψ]
def mp(h:S m=false):Fr S cs bs rs (m+1)=Fr S cs bs rs m:=by
 unfold Fr;rw[τ,π,υ];simp only[ς,φ,h,Bool.false_eq_true,if_false,ψ,List.append_nil]
def iQ(S:Nat->Bool)(cs:Nat->List Nat)(bs:List ByteArray)(rs:List RV)(m:Nat):(Fr S cs bs rs m).length<=m:=by
 unfold Fr;rw[χ];have:=ω (fun b=>S b) (κ m);simpa using this
def ra(B:Nat)(v:PV)(sz:Nat)(S:Nat->Bool)(f:Nat->Nat×Nat)(cs:Nat->List Nat)(kn:List Nat)(bs:List ByteArray)(rs:List RV)(w:σ)(h:PS w B v sz S f cs kn bs)(Y:Aj w v.a v.n rs)(hs:Af rs)(hn:v.n<=1048576)(hb:shorts bs)(P:bs.length<=1048576):
  Calls ρ 281 #[.pointer (ξ ⟨v.g,0,ε⟩)] w fun e w'=> ∃c j c1 l,e=.returned (γ c j c1)/\Eo w w' c j c1 (Fr S cs bs rs v.n) l:=by
 obtain⟨x0,x1,x2,x3⟩:=h.1.cells;have H:=Ab h;have HR:=Ab Y;have HS:=Ab hs;clear h Y hs;go_enter func281,ntmps281;go_wp2;go_loopw [3,12] (fun o i wr=> ∃k:Nat,∃c:Option Addr,∃j c1:Nat,∃l:List RV,k<=v.n/\i=.int .i64 k/\o=γ c j c1/\Hid (Eo w wr c j c1 (Fr S cs bs rs k) l)) (fun _ i _=>v.n-(intOf i).toNat)
 case atStart=>exact⟨0,ε,0,0,[],Nat.zero_le _,rfl,rfl,Ab (Eo.nil w)⟩
 case round=>
  obtain⟨k,c,j,c1,l,hk,rfl,rfl,y⟩:=hrel;clear x0 x1 x2 x3;by_cases T:k<v.n
  ·have z:=(Aa H).below (Aa y).2.2.2.2
   obtain⟨x0,x1,x2,x3⟩:=z.1.cells;have Z:(k:Int)<(v.n:Int):=by omega
   have u:=Ab (fun h=>iR (S:=S) (cs:=cs) (bs:=bs) (rs:=rs) (m:=k) h);have q:=Ab (fun h=>mp (S:=S) (cs:=cs) (bs:=bs) (rs:=rs) (m:=k) h);have V:l.length<=1048576:=by
    have:=congrArg List.length (Aa y).2.2.2.1;rw[χ]at this;have:=iQ S cs bs rs k;omega
   obtain⟨D,N,d⟩:=z.2.1;have A:=Ab (V9 B v kn bs rs k wr z.1 ((Aa HR).below (Aa y).2.2.2.2) (Aa HS) T hn hb P);cases b:S k
   ·obtain⟨az,nz,cz,R⟩:=jQ N d b (by omega)
    have L:=Ab (Aa q b);clear u q z N d A;go_wp2;go_roundw
    case rel=>exact⟨k+1,c,j,c1,l,by omega,by go_num,rfl,Ab (by rw[Aa L];exact Aa y)⟩
    case measure=>simp[intOf];omega
   ·have R:=jR N d b (by omega)
    have L:=Ab (Aa u b);have X:=Ab (z.2.2.1.own k b).1;clear u q z N d;generalize Dw bs (rs.getD k .dflt).xs (rs.getD k .dflt).s=t at*;generalize (f k).1=gk at*;generalize (f k).2=ck at*;obtain⟨W,K⟩:∃W,W=cs k:=⟨_,rfl⟩;rw[<-K]at L X;clear K;go_wp2_with (first|(go_at_call 307;refine(Aa A).mono ?_;rintro e w2 ⟨rfl,x⟩;have r:=Ab ((Aa X).below x);have p:=Ab ((Aa y).below x);clear x)|(at_builtin;refine RK rfl (.tmp 25) (.tmp 31) rfl w.heap.size (γ c j c1) l ⟨ξ ⟨gk,0,ε⟩,sz,ck,W,t⟩ rfl rfl (Aa p).1 (Aa p).2.2.2.2.size V ?_;intro v3 w3 J I E;obtain⟨a3,m3,c3,rfl,C⟩:=(Aa p).push (Ae.one (by have:=(Aa r).at';exact this.1▸this.2) (Aa r).cap) (CU.own (Aa r)) J I E;have O:=Ab C;clear J I E C));go_roundw
    case rel=>exact⟨k+1,a3,m3,c3,_,by omega,by go_num,rfl,Ab (by rw[Aa L];exact Aa O)⟩
    case measure=>simp[intOf];omega
  ·have Q:k=v.n:=by omega
   subst Q;go_wp2;go_ret;exact⟨c,j,c1,l,rfl,Aa y⟩
def AZ.gb{v:PV}(h:AZ w B v kn bs):v.g≠v.bg:=fun e=>by
 obtain⟨b,a⟩:=h.blocks.blk;have:=h.box;rw[e,a]at this;simp only[δ,ι]at this;exact absurd this.2.1 (by decide)
def PS.told{w1 w2 w3:σ}{v:PV}{N:Nat}{f:Nat->Nat×Nat}{b:Nat}{t:ByteArray}(h:PS w B v N S f cs kn bs)(x:B<=w.heap.size)(i:Below w.heap.size w w1)(c:w1.grownBy w2 (ξ v.bg))
  (J:Ar w2 B (γ (ξ ⟨v.bg,0,ε⟩) bs.length v.bc) (bs.set b t)) (d:w2.grownBy w3 (ξ v.kg)) (r:Own w3 B (γ (ξ ⟨v.kg,0,ε⟩) kn.length v.kc) (By kn b true)):PS w3 B v N S f cs (By kn b true) (bs.set b t)/\Below B w w3:=by
 obtain⟨l,⟨D,u,O⟩,L,s1,V⟩:=h.below i;obtain⟨W,a⟩:=l.blocks.blk;obtain⟨ck,q⟩:=l.known.blk
 have z:v.g≠v.bg:=fun e=>by
  have:=l.box;rw[e,a]at this;simp only[δ,ι]at this;exact absurd this.2.1 (by decide)
 have A:v.g≠v.kg:=fun e=>by
  have:=l.box;rw[e,q]at this;simp only[δ,ι]at this;exact absurd this.2.1 (by decide)
 have y:v.bg≠v.kg:=fun e=>by
  rw[e,q]at a;simp only[δ,ι]at a;exact absurd a.2.1 (by decide)
 have H:v.bm≠v.bg:=fun e=>by
  obtain⟨X,s,K,_⟩:=u;rw[e,a]at K;cases K
 have I:v.kg≠v.bm:=KM l.known u
 have E:∀p,S p=true->(f p).1≠v.bg:=fun p hp e=>by
  obtain⟨c2,o⟩:=(L.own p hp).1.blk;rw[e,a]at o;simp only[δ,ι]at o;exact absurd o.2.1 (by decide)
 have R:=L.kept c E;have T:=R.kept d (fun p hp=>(s1 p hp).2);have P:=(u.kept c (fun e=>H (by simpa using e))).kept d (fun e=>I (by simpa using e.symm));have Q:=l.box;refine⟨⟨⟨?_,by rw[Iu];exact r,?_⟩,⟨D,P,O⟩,T,s1,V⟩,?_⟩
 ·rw[Iu,ν]
  exact(d.block v.g (Nat.lt_of_lt_of_le l.lt c.size) (by simpa using A)).trans ((c.block v.g l.lt (by simpa using z)).trans Q)
 ·rw[ν]
  exact World.ownsRow.kept J d (.inr fun e=>y (by simpa [Value.ownBlock]using e))
 ·have B1:=i.mono x
  refine(B1.trans (CA c (Nat.le_trans x i.size) fun j C=>by cases C;exact(World.ownsRow.lt l.blocks v.bg rfl).1)).trans (CA d (Nat.le_trans x (Nat.le_trans i.size c.size)) fun j C=>by cases C;exact(r.lt (k:=v.kg) rfl).1)
def XO(B:Nat)(v:PV)(K:Nat)(S:Nat->Bool)(f:Nat->Nat×Nat)(cs:Nat->List Nat)(kn:List Nat)(bs:List ByteArray)(rs:List RV)(p b:Nat)(w:σ)(ht:Tab w)(h:PS w B v K S f cs kn bs)(hB:B<=w.heap.size)(hR:Aj w v.a v.n rs)(hs:Af rs)(hn:v.n<=1048576)(hb:shorts bs)(Z:bs.length<=1048576)(hz:K<=1048576)(ac:kn.length<=1048576)
  (hp:S p=true) (hf:firstI (cs p)=(b:Int)) (X:b<bs.length) (Y:b/64<kn.length):
  Calls ρ 282 #[.pointer (ξ ⟨v.g,0,ε⟩),.int .i64 (p:Int)] w fun e w'=>e=.returned (.tuple #[])/\PS w' B v K S f cs (By kn b true) (bs.set b (Dw bs (rs.getD p .dflt).xs (rs.getD p .dflt).s))/\Below B w w':=by
 obtain⟨x0,x1,x2,x3⟩:=h.1.cells;have af:=(h.2.2.2.1 p hp).1;obtain⟨D,hD,x⟩:=h.2.1;have ad:=ZE hD x hp (by omega);have I:=(h.2.2.1.own p hp).1;have HF:=Ab (JF (ξ ⟨(f p).1,0,ε⟩) K (f p).2 (cs p) w ht (by have:=I.at';exact this.1▸this.2) hz);rw[hf]at HF;have T:=Ab (fun wx (y:Below w.heap.size w wx)=>V9 B v kn bs rs p wx (h.1.below y) (hR.below y) hs af hn hb Z);have E:=h.1.lt;have ab:=h.1.gb;have C:¬v.bg=v.g:=fun e=>ab e.symm;have H:=Ab h;generalize Dw bs (rs.getD p .dflt).xs (rs.getD p .dflt).s=t at*;have r:=Ab (fun(w1 w2 w3:σ) i ag ae j l=>PS.told (w1:=w1) (w2:=w2) (w3:=w3) (b:=b) (t:=t) h hB i ag ae j l);have ah:(b:Int)<(bs.length:Int):=by omega
 clear hD x I hR hs ht h hf;generalize (f p).1=gp at*;generalize (f p).2=cp at*;go_enter func282,ntmps282;go_wp2_with (go_at_call 222;refine(Aa HF).mono ?_;rintro e w9 ⟨rfl,J⟩;obtain rfl:=J.symm;clear J);go_region_held (fun w'=>w'.cell? ⟨v.g,2,ε⟩=ξ (γ (ξ ⟨v.bg,0,ε⟩) bs.length v.bc)) (go_keep) (first|(go_at_call 307;refine(Aa T _ ((Below.refl _ _).drew)).mono ?_;rintro e w1 ⟨rfl,i⟩;have c:Below w.heap.size w w1:=Ad ((Below.refl w.heap.size w).drew) i;have z2:=(c.cell (p:=⟨v.g,2,ε⟩) E).trans x2;have z1:=(c.cell (p:=⟨v.g,1,ε⟩) E).trans x1;have o:=(Aa H).below c;obtain⟨g9,c9,e9,ai,aj,z,A⟩:=o.1.blocks.at (by omega);simp only[Value.slice.injEq,δ,Addr.mk.injEq,and_true,true_and]at e9;obtain⟨V,W⟩:=e9;subst V W;have y0:=z b X;have y1:=A b;have d:=Ab o;have L:=Ab c;clear o c z A i));have q1:(w1.setCell ⟨v.bg,b,ε⟩ (β t)).cell? ⟨v.g,1,ε⟩=ξ (γ (ξ ⟨v.kg,0,ε⟩) kn.length v.kc):=(η (h:=fun h=>C (by injection h)) ..).trans z1;have P:=Ab ((Aa d).1.blocks.stored b t);have u:=Ab (Bz w1 v.bg b (β t));generalize (w1.setCell ⟨v.bg,b,ε⟩ (β t))=w2 at*
 have O:=Ab (show Own w2 B (γ (ξ ⟨v.kg,0,ε⟩) kn.length v.kc) kn from(Aa d).1.known.kept (Aa u) (.inr fun e=>by
  obtain⟨cb,aa⟩:=(Aa d).1.blocks.blk;obtain⟨ck,q⟩:=(Aa d).1.known.blk;simp only[Value.ownBlock,δ]at e;rw[e,aa]at q;simp only[δ,ι]at q;exact absurd q.2.1 (by decide)))
 have R:=Ab (rM B v.kg v.kc kn b w2 (Aa O) Y ac);clear z1 z2 y0 y1 x0 x1 x2 x3 ad;go_wp2_with (go_at_call 308;refine(Aa R).mono ?_;rintro e w3 ⟨rfl,l,j⟩;have Q:=Ab l;have N:=Ab j;clear l j);go_end0;exact⟨rfl,Aa r w1 w2 w3 (Aa L) (Aa u) (Aa P) (Aa N) (Aa Q)⟩
def Fz(k:Int)(kn:List Nat)(r:RV):Bool:=AX k r.xs&& !decide (cnt (dropL r.xs kn)=0)&& !decide (cnt (dropL r.xs kn)=1)
def restL(k:Int)(rs:List RV)(kn:List Nat)(bs:List ByteArray):List (List Nat×ByteArray):=(rs.filter (Fz k kn)).map fun r=>(dropL r.xs kn,Dw bs r.xs r.s)
def BO(k:Int)(rs:List RV)(n:Nat)(S:Nat->Bool)(cs:Nat->List Nat)(kn:List Nat):Prop:=
 (∀p,S p=true->p<n/\AX k (rs.getD p .dflt).xs=true/\dropL (cs p) kn=dropL (rs.getD p .dflt).xs kn)/\∀p,p<n->AX k (rs.getD p .dflt).xs=true->S p=false->cnt (dropL (rs.getD p .dflt).xs kn)=0
def BO.start(k:Int)(rs:List RV)(n:Nat)(kn:List Nat):BO k rs n (Cx k rs n) (fun p=>(rs.getD p .dflt).xs) kn:=by
 refine⟨fun p hp=>?_,fun p hp b a=>?_⟩
 ·unfold Cx at hp
  rw[Bool.and_eq_true,decide_eq_true_eq]at hp;exact⟨hp.1,hp.2,rfl⟩
 ·unfold Cx at a
  rw[b,decide_eq_true hp]at a;cases a
def BO.next(h:BO k rs n S cs kn):
  (∀p,Ds S cs kn p=true->p<n/\AX k (rs.getD p .dflt).xs=true/\dropL (cs p) kn=dropL (rs.getD p .dflt).xs kn/\¬cnt (dropL (rs.getD p .dflt).xs kn)=0)/\∀p,p<n->AX k (rs.getD p .dflt).xs=true->Ds S cs kn p=false->cnt (dropL (rs.getD p .dflt).xs kn)=0:=by
 refine⟨fun p hp=>?_,fun p hp i b=>?_⟩
 ·unfold Ds at hp
  rw[Bool.and_eq_true]at hp;obtain⟨d,f,c⟩:=h.1 p hp.1;refine⟨d,f,c,fun e=>?_⟩;rw[c,e]at hp;simp at hp
 ·cases a:S p
  ·exact h.2 p hp i a
  ·unfold Ds at b
   rw[a,Bool.true_and]at b;rw[<-(h.1 p a).2.2];simpa using b
def BO.tell{e:List Nat}(h:BO k rs n S cs kn)(f:∀p,p<n->Ac (rs.getD p .dflt).xs)(d:∀i,Ah kn i=true->Ah e i=true):BO k rs n (Ds S cs kn) (fun p=>dropL (cs p) kn) e:=by
 obtain⟨l,o⟩:=h.next;refine⟨fun p hp=>?_,fun p hp r q=>?_⟩
 ·obtain⟨a,b,c,_⟩:=l p hp
  refine⟨a,b,?_⟩;show dropL (dropL (cs p) kn) e=_;rw[c,fW _ _ _ d (f p a)]
 ·have j:=Pa.1 (o p hp r q)
  refine Pa.2 fun i=>?_;have:=j i;rw[Hk]at this⊢;cases s:Ah (rs.getD p .dflt).xs i
  ·rfl
  ·rw[s]at this
   simp at this;rw[d i this];rfl
def BO.found{first:Nat}(h:BO k rs n S cs kn)(r:rs.length=n)(o:first<n)(f:S first=true/\cnt (dropL (cs first) kn)=1)(i:∀p,S p=true->cnt (dropL (cs p) kn)=1->first<=p):
  rs.find? (CE k kn)=ξ (rs.getD first .dflt)/\CE k kn (rs.getD first .dflt)=true:=by
 obtain⟨a,b,c⟩:=h.1 first f.1
 have ht:CE k kn (rs.getD first .dflt)=true:=by
  unfold CE;rw[b,<-c,f.2];rfl
 refine⟨YN (by omega) ht fun j q=>?_,ht⟩;cases e:AX k (rs.getD j .dflt).xs
 ·unfold CE;rw[e];rfl
 ·unfold CE
  rw[e,Bool.true_and,decide_eq_false_iff_not];intro l;cases d:S j
  ·have:=h.2 j (by omega) e d;omega
  ·have:=i j d (by rw[(h.1 j d).2.2];exact l);omega
def BO.nomore(h:BO k rs n S cs kn)(f:rs.length=n)(c:∀p,S p=true->cnt (dropL (cs p) kn)=1->n<=p):rs.find? (CE k kn)=ε:=by
 refine Yg fun j e=>?_;cases b:AX k (rs.getD j .dflt).xs
 ·unfold CE;rw[b];rfl
 ·unfold CE
  rw[b,Bool.true_and,decide_eq_false_iff_not];intro d;cases a:S j
  ·have:=h.2 j (by omega) b a;omega
  ·have:=c j a (by rw[(h.1 j a).2.2];exact d);omega
def ek(rs:List RV)(q:RV->Bool)(g:RV->List Nat×ByteArray):((κ rs.length).filter fun p=>q (rs.getD p .dflt)).map (fun p=>g (rs.getD p .dflt))=(rs.filter q).map g:=by
 have e:(κ rs.length).map (fun p=>rs.getD p .dflt)=rs:=by
  apply List.ext_getElem
  ·simp
  ·intro i b a
   simp[U,α a]
 conv=>rhs;rw[<-e,List.filter_map,List.map_map]
 rfl
def BO.rest(h:BO k rs n S cs kn)(u:rs.length=n)(f:rs.find? (CE k kn)=ε)(bs:List ByteArray):Fr (Ds S cs kn) (fun p=>dropL (cs p) kn) bs rs n=restL k rs kn bs:=by
 obtain⟨i,q⟩:=h.next
 have l:∀p,p<n->Ds S cs kn p=Fz k kn (rs.getD p .dflt):=fun p hp=>by
  have e:CE k kn (rs.getD p .dflt)=false:=by
   rw[<-Bool.not_eq_true];have:=List.find?_eq_none.1 f rs[p] (List.getElem_mem (by omega));rwa[U,α (by omega)]
  unfold Fz;unfold CE at e;cases j:Ds S cs kn p
  ·cases v:AX k (rs.getD p .dflt).xs
   ·rfl
   ·rw[q p hp v j];rfl
  ·obtain⟨a,b,c,d⟩:=i p j
   rw[b,Bool.true_and]at e;rw[b,decide_eq_false d,e];rfl
 unfold Fr restL;subst u;rw[<-ek rs (Fz k kn) fun r=>(dropL r.xs kn,Dw bs r.xs r.s)];have o:((κ rs.length).filter fun p=>Ds S cs kn p)=((κ rs.length).filter fun p=>Fz k kn (rs.getD p .dflt)):=List.filter_congr fun p hp=>l p (List.mem_range.1 hp);rw[o];apply List.map_congr_left;intro p hp;rw[List.mem_filter,List.mem_range]at hp;have:=i p (by rw[l p hp.1];exact hp.2);show(dropL (cs p) kn,_)=_;rw[this.2.2.1]
def Qa{a:Option Addr}(h:Aj w a n rs)(f:Af rs):Dx rs:=fun r e=>by
 obtain⟨i,d,rfl⟩:=List.mem_iff_getElem.1 e;have b:=h.2.1 i (by rw[<-h.1];exact d);have c:=f i;rw[U,α d]at b c;exact⟨b.2.1,c.2⟩
def XD(w wr:σ)(v:PV)(K:Nat)(rs:List RV)(f:Nat->Nat×Nat)(gk:Nat)(S:Nat->Bool)(cs:Nat->List Nat)(kn:List Nat)(bs:List ByteArray):Prop:=
 ∃j,Run (K:Int) rs j kn bs/\K=gk+j/\PS wr w.heap.size v (sizeOfK (K:Int)) S f cs kn bs/\BO (K:Int) rs v.n S cs kn/\Below w.heap.size w wr
def DH(w w':σ)(k:Int)(rs:List RV)(c:Option Addr)(e c1:Nat)(a:List RV)(d:Option Addr)(f c2:Nat)(b:List RV):Prop:=
 ∃kn bs,AN k rs kn bs/\Ak w' w.heap.size (γ c e c1) a/\Ae w' a/\a.map core=toldTo k kn bs k.toNat/\Ak w' w.heap.size (γ d f c2) b/\Ae w' b/\b.map core=restL k rs kn bs/\Below w.heap.size w w'
def sO(K:Nat)(a:Option Addr)(n c:Nat)(rs:List RV)(w:σ)(ht:Tab w)(D:0<sizeOfK (K:Int))(h:Aj w a n rs)(hs:Af rs)(hn:n<=1048576):
  Calls ρ 254 #[.int .i64 (K:Int),γ a n c] w fun e w'=> ∃a1 m1 c1 X a2 m2 c2 Y,e=.returned (.tuple #[γ a1 m1 c1,γ a2 m2 c2])/\DH w w' (K:Int) rs a1 m1 c1 X a2 m2 c2 Y:=by
 have W:=DV D;have hK:K<=128:=by omega
 have bl:=DU (K:Int);have hg:=Qa h hs;have ar:∀p,p<n->Ac (rs.getD p .dflt).xs:=fun p hp=>(h.2.1 p hp).2.1;have J:=Ab (fun(j:Nat) (kn:List Nat) (bs:List ByteArray) (hr:Run (K:Int) rs j kn bs)=>Run.known D hg hr);have ax:=Ab (ky K a n c rs w D h hs hn);have H:((sizeOfK (K:Int):Nat):Int)≠0:=by omega
 have bf:(((sizeOfK (K:Int):Nat):Int)==0)=false:=by rw[beq_eq_false_iff_ne];exact H
 have HZ:=Ab (Hr (K:Int) w);have Hh:=Ab h;have Hs:=Ab hs;have HT:=Ab ht;have ae:=Ab ar;have HL:=Ab h.1;clear h hs ht ar hg W D H;generalize bi:sizeOfK (K:Int)=zz at HZ bf;clear bi;go_enter func254,ntmps254;go_wp2_with (first|(go_at_call 176;refine(Aa HZ).mono ?_;rintro e w9 ⟨rfl,av⟩;obtain rfl:=av.symm;clear av)|(go_at_call 278;refine(Aa ax).mono ?_;rintro e w1 ⟨g,kg,bg,f,rfl,l,r⟩;have N:=Ab l;have u:=Ab r;clear l r));go_loopg [7] K (fun gk _ wr=> ∃(S:Nat->Bool) (cs:Nat->List Nat) (kn:List Nat) (bs:List ByteArray),Hid (XD w wr ⟨g,a,n,c,kg,sizeOfK (K:Int),bg,K,w.heap.size⟩ K rs f gk S cs kn bs))
 case atStart=>exact⟨_,_,_,_,Ab ⟨0,⟨rfl,by rw[ζ]⟩,by omega,Aa N,BO.start _ _ _ _,Aa u⟩⟩
 case round=>
  obtain⟨S,cs,kn,bs,ab⟩:=hrel;obtain⟨j,z,ah,ai,E,A⟩:=Aa ab;have v:=Aa J j kn bs z;have V:=v.lenb;rw[ζ]at V;have bd:=v.len;have L:=Ab (rp w.heap.size ⟨g,a,n,c,kg,sizeOfK (K:Int),bg,K,w.heap.size⟩ (sizeOfK (K:Int)) S f cs kn bs wr ai A.size (by omega) (by omega) hn);have aj:=(Aa Hh).below A;have q:=Ab E;have ad:=Ab z;have ay:=Ab A;have bj:=Ab aj;have Z:=Ab ah;have aa:=Ab v;have al:=Ab v.shorts;clear N u ai E A z aj v ab ah;go_wp2_with fail;refine(Aa L).mono ?_;rintro e w1 ⟨first,rfl,l,r,am,s,C⟩;have b:=(Aa ay).trans r;have u:=Ab b;have ac:=Ab ((Aa Hh).below b);have a9:=Ab ((Aa HT).below b);have N:=Ab l;by_cases d:first<n
  ·obtain⟨an,au⟩:=(Aa q).found (Aa HL) d (s d) C
   obtain⟨hv,T,bc,bh,ak,ao⟩:=KO (Aa ae first d) au;rw[ζ]at ak;have ap:Ds S cs kn first=true:=by
    unfold Ds;rw[(s d).1,(s d).2];rfl
   have I:∀i,Ah kn i=true->Ah (By kn (blkOf kn (rs.getD first .dflt)) true) i=true:=fun i hi=>by
    rw[Iy _ _ _ _ (by have:=DV (Aa aa).size;omega)];split
    ·rfl
    ·exact hi
   have ba:=Ab (XO w.heap.size ⟨g,a,n,c,kg,sizeOfK (K:Int),bg,K,w.heap.size⟩ (sizeOfK (K:Int)) (Ds S cs kn) f (fun p=>dropL (cs p) kn) kn bs rs first (blkOf kn (rs.getD first .dflt)) w1 (Aa a9) l b.size (Aa ac) (Aa Hs) hn (Aa al) (by omega) (by omega) (by omega) ap
    (by show firstI (dropL (cs first) kn)=_;rw[((Aa q).1 first (s d).1).2.2];exact ao) (by omega) (by have:=DV (Aa aa).size;omega))
   have a3:=Ab ((Aa q).tell (Aa ae) I);have O:=Ab (show Run (K:Int) rs (j+1) _ _ from⟨kn,bs,_,Aa ad,an,rfl,rfl⟩);have y:decide (first<n)=true:=decide_eq_true d;rw[y];clear an au hv T bc bh ak ao ap I y am s C l r b L;go_wp2_with (go_at_call 282;refine(Aa ba).mono ?_;rintro e w2 ⟨rfl,aq,x⟩;have a4:=Ab aq;have aw:=Ab ((Aa u).trans x);clear aq x);go_roundg (gk-1)
   case measure=>
    have:=(Aa J (j+1) _ _ (Aa O)).le;rw[ζ]at this;have:=Aa Z;omega
   case rel=>
    have h1:=(Aa J (j+1) _ _ (Aa O)).le;rw[ζ]at h1;have h2:=Aa Z;exact⟨_,_,_,_,Ab ⟨j+1,Aa O,by omega,Aa a4,Aa a3,Aa aw⟩⟩
  ·have bb:first=n:=by omega
   have o:=(Aa q).nomore (Aa HL) (fun p hp hc=>by have:=C p hp hc;omega);have a5:=Ab (show AN (K:Int) rs kn bs from⟨⟨j,Aa ad⟩,o⟩);have a6:=Ab ((Aa q).rest (Aa HL) o bs);have af:=Ab (XQ w.heap.size ⟨g,a,n,c,kg,sizeOfK (K:Int),bg,K,w.heap.size⟩ kn bs w1 l.1 (by omega) (by omega));have a7:=Ab (fun w2 (x:Below w1.heap.size w1 w2)=>ra w.heap.size ⟨g,a,n,c,kg,sizeOfK (K:Int),bg,K,w.heap.size⟩ (sizeOfK (K:Int)) (Ds S cs kn) f (fun p=>dropL (cs p) kn) kn bs rs w2 (l.below x) ((Aa ac).below x) (Aa Hs) hn (Aa al) (by omega));rw[V]at af;have y:decide (first<n)=false:=decide_eq_false d;rw[y];clear o y am s C l r b L d bb q V bd;go_wp2_with (first|(go_at_call 280;refine(Aa af).mono ?_;rintro e w2 ⟨a1,m1,c1,X,rfl,Q⟩;have az:=Ab Q;have a8:=Ab (Aa a7 w2 Q.2.2.2.2);clear Q)|(go_at_call 281;refine(Aa a8).mono ?_;rintro e w3 ⟨a2,m2,c2,Y,rfl,ag⟩;have a0:=Ab ag;clear ag));go_ret2;have g1:=Aa az;have g2:=Aa a0;have R:=g2.2.2.2.2;have P:=Aa u;refine⟨a1,m1,c1,X,a2,m2,c2,Y,rfl,kn,bs,Aa a5,(g1.1.below R).mono P.size,g1.2.1.below R,?_,g2.1.mono (Nat.le_trans P.size g1.2.2.2.2.size),g2.2.1,?_,Ad (Ad P g1.2.2.2.2) R⟩
   ·rw[ζ];exact g1.2.2.2.1
   ·rw[<-Aa a6];exact g2.2.2.2.1
def I0(h:sizeOfK k=0):AN k rs [] (Α k.toNat ByteArray.empty)/\toldTo k [] (Α k.toNat ByteArray.empty) k.toNat=[]/\restL k rs [] (Α k.toNat ByteArray.empty)=[]:=by
 have a:∀xs,AX k xs=false:=fun xs=>by
  rw[<-Bool.not_eq_true];intro c;have:=(GS c).1;omega
 refine⟨⟨⟨0,by rw[h];rfl,rfl⟩,?_⟩,?_,?_⟩
 ·rw[List.find?_eq_none]
  intro r _;unfold CE;rw[a];simp
 ·unfold toldTo
  rw[List.filter_eq_nil_iff.2 (fun b _=>by rw[Vl];simp)];rfl
 ·unfold restL
  rw[List.filter_eq_nil_iff.2 (fun r _=>by unfold Fz;rw[a];simp)];rfl
def sN(k:Int)(a:Option Addr)(n c:Nat)(rs:List RV)(w:σ)(ht:Tab w)(h:Aj w a n rs)(v:Af rs)(A:n<=1048576):
  Calls ρ 254 #[.int .i64 k,γ a n c] w fun e w'=> ∃p x c1 l q y c2 o,e=.returned (.tuple #[γ p x c1,γ q y c2])/\DH w w' k rs p x c1 l q y c2 o:=by
 by_cases j:sizeOfK k=0
 ·have f:=Hr k w
  rw[j]at f;have f:=Ab f;obtain⟨r,s,u⟩:=I0 (rs:=rs) j;have z:Hid (DH w w k rs none 0 0 [] none 0 0 []):=Ab ⟨_,_,r,Ak.nil _ _,Ae.nil _,s.symm,Ak.nil _ _,Ae.nil _,u.symm,Below.refl _ _⟩;clear h v ht r s u j;go_enter func254,ntmps254;go_wp2_with (first|(go_at_call 176;refine(Aa f).mono ?_;rintro e C ⟨rfl,d⟩;obtain rfl:=d.symm;clear d));go_ret2;exact⟨ε,0,0,[],ε,0,0,[],rfl,Aa z⟩
 ·have b:0<sizeOfK k:=by omega
  have i:=DV b;obtain⟨K,rfl⟩:=Int.eq_ofNat_of_zero_le (show 0<=k by omega);exact sO K a n c rs w ht b h v A
def A0(w:σ)(g:Nat)(ss:List ByteArray):Prop:=∀i,i<ss.length->w.cell? ⟨g,i,ε⟩=ξ (β (ss.getD i ByteArray.empty))/\w.frozen? ⟨g,i,ε⟩=false
def A0.texts(h:A0 w g ss):AG w (ξ ⟨g,0,ε⟩) ss.length ss:=
 ⟨rfl,.inr ⟨g,0,rfl,fun i a=>by rw[Nat.zero_add];exact(h i a).1⟩⟩
def A0.alloc(h:A0 w g ss)(a:g<w.heap.size)(o:Obj):A0 (w.alloc o) g ss:=fun i b=>
 ⟨(World.cell?_alloc_lt (h:=by exact a) ..).trans (h i b).1,(World.frozen?_alloc_old (h:=by exact Nat.ne_of_lt a) ..).trans (h i b).2⟩
def S9(ss:List ByteArray)(k i:Nat)(z:ByteArray)(a:k<ss.length):(ss.set k z).getD i ByteArray.empty=if i=k then z else ss.getD i ByteArray.empty:=by
 simp only[U,List.getElem?_set];by_cases h:k=i
 ·subst h;simp[a]
 ·simp[h,Ne.symm h]
def A0.stored(h:A0 w g ss)(k:Nat)(z:ByteArray)(c:k<ss.length):A0 (w.setCell ⟨g,k,ε⟩ (β z)) g (ss.set k z):=by
 intro i a;rw[ν]at a;refine⟨?_,by rw[World.frozen?_setCell];exact(h i a).2⟩;rw[S9 ss k i z c];by_cases e:i=k
 ·subst e
  rw[if_pos rfl];exact ο _ _ _ (h i a).1
 ·rw[if_neg e]
  have b:(⟨g,k,ε⟩:Addr)≠⟨g,i,ε⟩:=fun h=>e (by injection h with _ h;exact h.symm);exact(η (h:=b) ..).trans (h i a).1
def Gy(rs:List RV)(k:Nat):List ByteArray:=(κ rs.length).map fun i=>if i<k then(rs.getD i .dflt).s else ByteArray.empty
def Hm(rs:List RV)(k:Nat):(Gy rs k).length=rs.length:=by simp[Gy]
def Mn(rs:List RV)(k i:Nat):(Gy rs k).getD i ByteArray.empty=if i<k/\i<rs.length then(rs.getD i .dflt).s else ByteArray.empty:=by
 unfold Gy;rw[U];by_cases a:i<rs.length
 ·simp[a]
 ·simp[a]
def Re{a b:List ByteArray}(e:a.length=b.length)(h:∀i,i<a.length->a.getD i ByteArray.empty=b.getD i ByteArray.empty):a=b:=by
 apply List.ext_getElem e;intro i c d;have:=h i c;simpa [U,α c,α d]using this
def kb(rs:List RV)(k:Nat)(c:k<rs.length):(Gy rs k).set k (rs.getD k .dflt).s=Gy rs (k+1):=by
 apply Re
 ·rw[ν,Hm,Hm]
 ·intro i a
  rw[ν,Hm]at a;rw[S9 _ _ _ _ (by rw[Hm];exact c),Mn,Mn];by_cases e:i=k
  ·subst e;simp[a]
  ·rw[if_neg e]
   by_cases b:i<k
   ·rw[if_pos ⟨b,a⟩,if_pos ⟨by omega,a⟩]
   ·rw[if_neg (by omega),if_neg (by omega)]
def oz(rs:List RV):Gy rs rs.length=rs.map fun r=>r.s:=by
 apply Re
 ·simp[Hm]
 ·intro i a
  rw[Hm]at a;rw[Mn,if_pos ⟨a,a⟩];simp[U,α a]
def mV{wr:σ}{b k:Nat}{x y u v:Value}(f:A0 wr g (Gy rs k))(e:k<rs.length)(j:g<wr.heap.size)(h:Ca wr b x y)(d:g≠b)(i:Below w.heap.size w wr)(c:w.heap.size<=g):
  A0 ((wr.setCell ⟨g,k,ε⟩ (β (rs.getD k .dflt).s)).alloc (θ #[u,v] 73)) g (Gy rs (k+1))/\
  Ca ((wr.setCell ⟨g,k,ε⟩ (β (rs.getD k .dflt).s)).alloc (θ #[u,v] 73)) b x y/\
  Below w.heap.size w ((wr.setCell ⟨g,k,ε⟩ (β (rs.getD k .dflt).s)).alloc (θ #[u,v] 73))/\
  g<((wr.setCell ⟨g,k,ε⟩ (β (rs.getD k .dflt).s)).alloc (θ #[u,v] 73)).heap.size:=by
 have a:=i.setCell (p:=⟨g,k,ε⟩) (by exact c) (β (rs.getD k .dflt).s);refine⟨?_,(h.other _ _ d).alloc _,a.alloc a.size _,by simp;omega⟩;rw[<-kb rs k e];exact(f.stored k _ (by rw[Hm];exact e)).alloc (by simpa using j) _
def py:(Tryz.prog.info? 9).map (fun i=>(i.zero,i.size,i.bytes))=ξ (ξ (β ByteArray.empty),1,16):=by kernel_rfl
def fB(w:σ)(n:Nat)(rs:List RV)(b:rs.length=n):A0 (w.alloc (θ (madeCells (μ ByteArray.empty).cells (n*1)) 9)) w.heap.size (Gy rs 0):=by
 intro i a;rw[Hm]at a;refine⟨?_,by simp⟩;rw[World.cell?_alloc_new,Mn,if_neg (by omega)];rw[show(μ ByteArray.empty).cells=#[μ ByteArray.empty] from rfl,<-Array.getElem?_toList,toList_madeCells_one,Nat.mul_one];simp[show i<n from by omega]
def Zu(a:Option Addr)(n c:Nat)(rs:List RV)(w:σ)(h:Aj w a n rs)(L:Af rs)(hn:n<=1048576)(hc:n<=c)(aa:c<=9223372036854775807):
  Calls ρ 275 #[γ a n c] w fun e w'=> ∃v,e=.returned (.agg #[v,β (st (Ct (rs.map fun r=>r.s)))])/\Own w' w.heap.size v (AM rs)/\Below w.heap.size w w':=by
 obtain rfl:=h.1;obtain⟨i0,K,N,O,Q⟩:=info_parts py;have d:=run_make (P:=ρ) (w.alloc (θ #[γ none 0 0,β ⟨#[]⟩] 73)) 66 9 i0 (β ByteArray.empty) underlying66 K N .i64 .i64 (rs.length:Int) (rs.length:Int) (by omega) (by omega) (by rw[Q];omega) (by omega);simp only[ζ]at d;rw[O]at d;have hX:=(JM w (γ none 0 0) (β ⟨#[]⟩)).alloc (θ (madeCells (μ ByteArray.empty).cells (rs.length*1)) 9);have Z:=fB (w.alloc (θ #[γ none 0 0,β ⟨#[]⟩] 73)) rs.length rs rfl;have hb:=GW (Below.refl _ w) (Below.refl ((w.alloc (θ #[γ none 0 0,β ⟨#[]⟩] 73)).alloc (θ (madeCells (μ ByteArray.empty).cells (rs.length*1)) 9)).heap.size _);have y:(w.alloc (θ #[γ none 0 0,β ⟨#[]⟩] 73)).heap.size<((w.alloc (θ #[γ none 0 0,β ⟨#[]⟩] 73)).alloc (θ (madeCells (μ ByteArray.empty).cells (rs.length*1)) 9)).heap.size:=by simp
 rw[A7]at d Z y;generalize ((w.alloc (θ #[γ none 0 0,β ⟨#[]⟩] 73)).alloc (θ (madeCells (μ ByteArray.empty).cells (rs.length*1)) 9))=w1 at*;have HX:=Ab hX;have HT:=Ab Z;have HB:=Ab hb;have HG:=Ab y;clear hX Z hb y K N O Q;go_enter func275,ntmps275;go_wp2;go_loopw [11] (fun i wr=> ∃k:Nat,k<=rs.length/\i=.int .i64 k/\Hid (A0 wr (w.heap.size+1) (Gy rs k))/\Hid (Ca wr w.heap.size (γ none 0 0) (β ⟨#[]⟩))/\Hid (Below w.heap.size w wr)/\Hid (w.heap.size+1<wr.heap.size)) (fun i _=>rs.length-(intOf i).toNat)
 case atStart=>exact⟨0,Nat.zero_le _,rfl,HT,HX,HB,HG⟩
 case round=>
  obtain⟨k,hk,rfl,j,p,f,o⟩:=hrel;clear HT HX HB HG d;by_cases l:k<rs.length
  ·obtain⟨b,off,rfl,J⟩:=(h.below (Aa f)).at l
   obtain⟨af,ag⟩:=J k l;have ae:(k:Int)<(rs.length:Int):=by omega
   have R:=Ab (mV (u:=.slice (rs.getD k .dflt).a (rs.getD k .dflt).n (rs.getD k .dflt).c) (v:=β (rs.getD k .dflt).s) (Aa j) l (Aa o) (Aa p) (by omega) (Aa f) (by omega));have hold:=(Aa j) k (by rw[Hm];exact l);obtain⟨ah,ai⟩:=hold;have y:=Aa o;have Hh:=Ab h;have Hs:=Ab L;clear h J L j p f o;generalize rs.getD k .dflt=r at*;go_wp2;go_roundw
   case rel=>exact⟨k+1,by omega,by go_num,Ab (Aa R).1,Ab (Aa R).2.1,Ab (Aa R).2.2.1,Ab (Aa R).2.2.2⟩
   case measure=>simp[intOf];omega
  ·have ab:k=rs.length:=by omega
   subst ab;rw[oz]at j;have HR:=Ab (h.below (Aa f))
   have HS:Hid (∀r∈rs,r.xs.length<=10):=Ab (fun r hr=>by
    obtain⟨i,V,rfl⟩:=List.mem_iff_getElem.1 hr;have I:=(L i).1;have h2:=(h.2.1 i V).1;rw[U,α V]at I h2;simp only[Β]at I h2;omega)
   have Y:Hid (shorts (rs.map fun r=>r.s)):=Ab (fun t ht=>by
    obtain⟨r,hr,rfl⟩:=List.mem_map.1 ht;obtain⟨i,V,rfl⟩:=List.mem_iff_getElem.1 hr;have I:=(L i).2;rw[U,α V]at I;simp only[Β]at I;omega)
   have ac:Hid ((rs.map fun r=>r.s).length=rs.length):=Ab (by simp);clear h L l;go_wp2_with fail;refine(Yb rs.length a rs.length c rs _ (Nat.le_refl _) (Aa HR) (Aa HS) hn hc aa).mono ?_;rintro e w2 ⟨v2,rfl,z,q⟩;obtain⟨T,c2,rfl,ad⟩:=z.row;clear ad;have A:=(Aa j).texts.below q;rw[Aa ac]at A;have E:=Ab A;have H:=Ab ((Aa p).below q);have C:=Ab (Ad (Aa f) q);have D:=Ab (z.mono (show w.heap.size+1<=_ from by have:=Aa o;omega));clear z q A j p f HR;go_wp2_with fail;refine(Xn _ _ _ _ _ (Aa E) (Aa Y) hn).mono ?_;rintro e w3 ⟨rfl,x⟩;obtain⟨⟨x0,x1⟩,f0,f1⟩:=(Aa H).below x;have W:=Ab (Ad (Aa C) x);have X:=Ab ((Aa D).below x);clear H E C D x;go_wp2;have y1:=ο (w3.setCell ⟨w.heap.size,0,ε⟩ (γ T (AM rs).length c2)) ⟨w.heap.size,1,ε⟩ (β (st (Ct (rs.map fun r=>r.s)))) ((η (h:=by simp) ..).trans x1)
   have y0:((w3.setCell ⟨w.heap.size,0,ε⟩ (γ T (AM rs).length c2)).setCell ⟨w.heap.size,1,ε⟩ (β (st (Ct (rs.map fun r=>r.s))))).cell? ⟨w.heap.size,0,ε⟩=ξ (γ T (AM rs).length c2):=
    (η (h:=by simp) ..).trans (ο _ _ _ x0)
   exact bodyPost_ret (v:=.agg #[γ T (AM rs).length c2,β (st (Ct (rs.map fun r=>r.s)))]) (by simp[results,Tryz.results275,go_sem,y0,y1]) rfl
    ⟨_,rfl,(((Aa X).other _ _ (by omega)).other _ _ (by omega)).mono (by omega),((Aa W).setCell (Nat.le_refl _) _).setCell (Nat.le_refl _) _⟩
end Go.Proofs.YtfpmnekaockodaaGreatDoor
