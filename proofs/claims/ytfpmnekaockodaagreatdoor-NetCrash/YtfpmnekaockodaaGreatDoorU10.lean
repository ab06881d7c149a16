/- Laws for the proof. -/
import Derived.Test.YtfpmnekaockodaaGreatDoorU9
import Derived.Lib.Overlaps
import Derived.Laws.Externs
set_option linter.all false
open Go.Proofs.Tryz
open List renaming getD_eq_getElem?_getD->S,getElem?_eq_getElem->T,mem_append_left->V,getElem?_append_left->β,getElem?_take_of_lt->δ,mem_cons_self->ε,replicate->η,take_of_length_le->ι,mem_cons_of_mem->ν,getElem_of_mem->ο,getElem?_append_right->ρ,getElem?_cons_succ->ς,getElem?_replicate->σ,getElem?_drop->φ,getElem?_map->ψ
open Nat renaming testBit_xor->U,testBit_shiftLeft->Y,eq_of_testBit_eq->α,testBit_two_pow->γ,xor_self->ζ,le_refl->κ,xor_assoc->μ,zero_xor->ξ,xor_zero->τ,testBit_mod_two_pow->υ,zero_add->χ
open Go.Value renaming slice->X,slice->ω
open Go renaming Value->Z,World->π
open Option.some renaming injEq->θ,inj->Α
namespace Go.Proofs.YtfpmnekaockodaaGreatDoor
open Go.RowKit
set_option maxRecDepth 4000
def Mc:(Tryz.prog.info? 40).map (fun i=>(i.zero,i.size,i.bytes))=some (some (X none 0 0),1,24):=by kernel_rfl
def oJ(w:π):(sizeOf 40).run Tryz.prog w=.ok 1 w:=by
 obtain⟨d,a,_,c,_⟩:=info_parts Mc;simp[sizeOf,typeInfo,a,c]
end Go.Proofs.YtfpmnekaockodaaGreatDoor
namespace Go.Proofs.YtfpmnekaockodaaGreatDoor
open Go.RowKit
set_option maxRecDepth 4000
variable {rs:List (List Nat)}{vs:List Z}{B:Nat}{v:Z}{w w':π}
structure AJ(w:π)(B:Nat)(v:Z)(vs:List Z)(rs:List (List Nat)):Prop where
 top:w.ownsRow B 40 1 v rs.length vs
 rows:∀i u,vs[i]? =some u->Own w B u (rs.getD i [])
 apart:vs.Pairwise EO
def AJ.len(h:AJ w B v vs rs):vs.length=rs.length:=by simpa using h.top.1
def AJ.nil(w:π)(B:Nat):AJ w B (X none 0 0) [] []:=⟨World.ownsRow_nil _ _ _ _,(fun i u h=>by simp at h),.nil⟩
def Uk{B':Nat}{u:Z}{n:Nat}{cs:List Z}{xs:List Nat}(h:w.ownsRow B 40 1 v n cs)(k:Own w B' u xs):EO u v:=by
 rcases h.2 with⟨rfl,_⟩|⟨g,cap,f,rfl,l,j,_⟩
 ·by_cases e:u.ownBlock=none
  ·exact .inl e
  ·exact .inr e
 ·rcases k.2.2 with⟨rfl,_⟩|⟨g',c,d,rfl,i,a,_⟩
  ·exact .inl rfl
  ·right
   intro e;simp only[Value.ownBlock,θ]at e;rw[e]at a;rw[j]at a;simp at a
def AJ.dis(h:AJ w B v vs rs){i:Nat}{u:Z}(a:vs[i]? =some u):EO u v:=Uk h.top (h.rows i u a)
def LL{e:TypeId}{n:Nat}{cs:List Z}(h:w.ownsRow B e 1 v n cs)(a:Below w.heap.size w w'):w'.ownsRow B e 1 v n cs:=
 h.kept (CD a none) (by cases c:v.ownBlock<;>simp)
def AJ.below(h:AJ w B v vs rs)(a:Below w.heap.size w w'):AJ w' B v vs rs:=
 ⟨LL h.top a,fun i u c=>(h.rows i u c).below a,h.apart⟩
def AJ.vecs(h:AJ w B v vs rs):∃a c,v=X a rs.length c/\VecsAt w a rs.length rs:=by
 have D:=h.len;rcases h.top.2 with⟨rfl,l⟩|⟨g,cap,o,rfl,C,s,u,p,q,ht⟩
 ·exact⟨none,0,by rw[l],rfl,.inl l,fun _ _ _ _ _ _ e=>by cases e⟩
 ·have d:∀i (j:i<vs.length),w.cell? ⟨g,i,none⟩=some vs[i]:=fun i j=>by
   rw[cell_of_row w g i _ _ _ s,<-Array.getElem?_toList,<-T j,<-ht,δ (by omega)]
  refine⟨_,cap,rfl,rfl,.inr ⟨g,0,rfl,fun i j=>?_⟩,fun b off i z k A e j m=>?_⟩
  ·have f:i<vs.length:=by omega
   obtain⟨a,c,e,y⟩:=(h.rows i vs[i] (T f)).row;refine⟨a,c,?_,y⟩;rw[χ,d i f,e]
  ·simp only[θ,Addr.mk.injEq,and_true]at e
   obtain⟨rfl,rfl⟩:=e;have f:i<vs.length:=by omega
   have n:=h.rows i vs[i] (T f);rw[χ,d i f]at m;rw[Α m]at n;exact n.cap
def gA(r:List Nat)(p i:Nat)(C:List (List Nat))(hp:p<=C.length):(Fw r p C).getD i []=if i<p then C.getD i []else if i=p then r else C.getD (i-1) []:=by
 unfold Fw;have d:(C.take p).length=p:=by rw[List.length_take];omega
 rw[S];split
 ·rename_i a
  rw[β (by omega),δ a,S]
 ·rename_i a
  rw[ρ (by omega),d];split
  ·rename_i c;subst c;simp
  ·rename_i c
   rw[show i-p=(i-p-1)+1 by omega,ς,φ,S,show p+(i-p-1)=i-1 by omega]
def AJ.insert{p:Nat}{s e:Z}{r:List Nat}(h:AJ w B v vs rs)(l:Own w B e r)(m:∀u∈vs,EO u e)(hp:p<=rs.length)
  (d:w'.ownsRow B 40 1 s (rs.length+1) (vs.take p++e::vs.drop p)) (g:w.grownBy w' v.ownBlock):AJ w' B s (vs.take p++e::vs.drop p) (Fw r p rs):=by
 have n:=h.len;have j:(vs.take p).length=p:=by rw[List.length_take];omega
 refine⟨by rw[NC r p rs hp];exact d,fun i u c=>?_,?_⟩
 ·rw[gA r p i rs hp]
  by_cases f:i<p
  ·rw[if_pos f]
   rw[β (by omega),δ f]at c;exact(h.rows i u c).kept g (h.dis c)
  ·rw[if_neg f]
   rw[ρ (by omega),j]at c;by_cases k:i=p
   ·subst k
    rw[if_pos rfl];simp at c;subst c;exact l.kept g (Uk h.top l)
   ·rw[if_neg k]
    rw[show i-p=(i-p-1)+1 by omega,ς,φ,show p+(i-p-1)=i-1 by omega]at c;exact(h.rows (i-1) u c).kept g (h.dis c)
 ·refine(List.Perm.pairwise_iff (fun h=>EO.symm h) (List.perm_middle (a:=e) (l₁:=vs.take p) (l₂:=vs.drop p))).2 ?_
  rw[List.take_append_drop];exact List.pairwise_cons.2 ⟨fun u c=>(m u c).symm,h.apart⟩
set_option maxHeartbeats 400000 in
def Qu(a:Option Addr)(n c:Nat)(rs:List (List Nat))(f:Option Addr)(m j:Nat)(xs:List Nat)(w:π)(ht:Tab w)(h:VecsAt w a n rs)(g:Ay 1048576 rs)(d:RowAt w f m xs)(y:n<=1048576)(l:m<=1048576):
  Calls Tryz.prog 285 #[X a n c,X f m j] w fun e w'=>e=.returned (.bool (decide (firstI (reduceL rs xs)<0)))/\Below w.heap.size w w':=by
 have i:=Ab (N7 a n c rs f m j xs w ht h g d y l);have u:=(EU g d.2.1 (by rw[d.1];exact l)).2;clear h d g;generalize reduceL rs xs=r at*;go_enter func285,ntmps285;go_wp2_with fail;refine(Aa i).mono ?_;rintro e w1 ⟨v,rfl,o,k⟩;obtain⟨s,c1,rfl,p⟩:=o.row;have q:=Ab (JF s r.length c1 r w1 (ht.below k) p u);clear o p i;go_wp2_with (go_at_call 222;refine(Aa q).mono ?_;rintro e w2 ⟨rfl,rfl⟩);go_ret;exact⟨rfl,k⟩
end Go.Proofs.YtfpmnekaockodaaGreatDoor
namespace Go.Proofs.YtfpmnekaockodaaGreatDoor
open Go.RowKit
set_option maxRecDepth 4000
def qO(w:π)(n:Nat)(e:n<=1048576)(rs:List (List Nat))(c:rs=η n []):
  AJ (w.alloc (.cells (madeCells #[X none 0 0] n) 40)) w.heap.size (X (some ⟨w.heap.size,0,none⟩) n n) (η n (X none 0 0)) rs:=by
 subst c;refine⟨⟨by simp,.inr ⟨w.heap.size,n,madeCells #[X none 0 0] n,by simp,κ _,heap_alloc_new w _,by simp,by unfold maxLen;omega,by simp[size_madeCells],?_⟩⟩,fun i u a=>?_,?_⟩
 ·rw[toList_madeCells_one,ι (by simp)]
 ·rw[σ]at a
  split at a
  ·rename_i d
   obtain rfl:=Α a;rw[S,σ,if_pos d];exact Own.nil _ _
  ·cases a
 ·refine List.pairwise_replicate.2 (.inr (.inl rfl))
end Go.Proofs.YtfpmnekaockodaaGreatDoor
namespace Go.Proofs.YtfpmnekaockodaaGreatDoor
open Go.RowKit Go.Sort
set_option maxRecDepth 4000
variable {rs:List (List Nat)}{vs:List Z}{B:Nat}{v:Z}{w w':π}
def AJ.push{s a:Z}{r:List Nat}(h:AJ w B v vs rs)(i:Own w B a r)(f:∀u∈vs,EO u a)
  (c:w'.ownsRow B 40 1 s (rs.length+1) (vs++[a])) (g:w.grownBy w' v.ownBlock):AJ w' B s (vs++[a]) (rs++[r]):=by
 have j:=h.len;have d:vs.take rs.length++a::vs.drop rs.length=vs++[a]:=by rw[ι (by omega),List.drop_of_length_le (by omega)]
 have e:Fw r rs.length rs=rs++[r]:=by unfold Fw;simp
 have:=h.insert (p:=rs.length) i f (κ _) (by rw[d];exact c) g;rwa[d,e]at this
def fm{ops:Array Oper}{rest:List Oper}{o:Oper}{act:Act}{Q:Exit->Act->π->Prop}(l:o.guard=none)(s x:Operand)
  (J:o.op=.call {callee:=.builtin .append,args:=#[s,x],argTypes:=#[260,260]}) (B:Nat) (v:Z) (vs:List Z) (rs:List (List Nat)) (f:Z) (r:List Nat)
  (K:act.eval s=v) (N:act.eval x=X (some ⟨w.heap.size,0,none⟩) 1 1) (h:AJ w B v vs rs) (C:B<=w.heap.size) (z:Own w B f r) (H:∀u∈vs,EO u f) (P:rs.length<=1048576)
  (D:∀A w',AJ w' B A (vs++[f]) (rs++[r])->w.grownBy w' v.ownBlock->wpList Tryz.prog ops Q rest (act.put o.dst A) w'):wpList Tryz.prog ops Q (o::rest) act (w.alloc (.cells #[f] 40)):=by
 obtain⟨O,I,m,n,p⟩:=info_parts Mc;have k:Below w.heap.size w (w.alloc (.cells #[f] 40)):=(Below.refl _ _).alloc (κ _) _;have q:=h.below k;have g:f.oneCell'=true:=by
  obtain⟨a,c,e,_⟩:=z.row;rw[e];rfl
 refine wpList_append_own _ l s x 260 J B 40 O (X none 0 0) 1 24 underlying260 I m n p rfl (by decide) v rs.length vs K q.top ⟨w.heap.size,0,none⟩ 1 1 [f] N rfl (fun j u y=>?_)
  (fun u L=>by rw[List.mem_singleton.1 L];exact g) (by unfold maxLen;omega) (by omega) (Nat.le_trans C k.size) ?_
 ·match j with
  |0=>
   have E:(w.alloc (.cells #[f] 40)).cell? ⟨w.heap.size,0,none⟩=some f:=by rw[World.cell?_alloc_at _ _ _ _ rfl];rfl
   simpa [Addr.add,E]using y
  |j+1=>simp at y
 ·intro v' w' i d _
  exact D v' w' (q.push (z.below k) H i d) (Bx (CD k _) d (.inl rfl))
def kl{u:Z}{xs d:List Nat}(h:Own w B u xs)(k:Own w' w.heap.size v d):EO u v:=by
 by_cases c:u.ownBlock=none
 ·exact .inl c
 ·right
  intro e;obtain⟨b,a⟩:=Option.ne_none_iff_exists'.1 c;have f:=(h.lt a).2;have g:=(k.lt (by rw[<-e];exact a)).1;omega
def AJ.dis_new{a:Z}{e:List Nat}(h:AJ w B v vs rs)(k:Own w' w.heap.size a e):∀u∈vs,EO u a:=by
 intro u d;obtain⟨i,c,rfl⟩:=ο d;exact kl (h.rows i _ (T c)) k
def AJ.shape(h:AJ w B v vs rs):∃a c,v=X a rs.length c:=by
 obtain⟨a,c,e,_⟩:=h.vecs;exact⟨a,c,e⟩
end Go.Proofs.YtfpmnekaockodaaGreatDoor
namespace Go.Proofs.YtfpmnekaockodaaGreatDoor
open Go.RowKit Go.Sort
set_option maxRecDepth 4000
def vecsL(rs:List RV):List (List Nat):=rs.map fun r=>r.xs
def Gb(w:π)(B:Nat)(v:Z)(d:List RV):Prop:=w.ownsRow B 40 1 v d.length (d.map fun r=>.slice r.a r.n r.c)
def Gb.vecs{w:π}{B:Nat}{v:Z}{d:List RV}(h:Gb w B v d)(q:Ae w d):∃a c,v=X a d.length c/\VecsAt w a d.length (vecsL d):=by
 have z:w.ownsRow B 40 1 v d.length (d.map fun r=>.slice r.a r.n r.c):=h;rcases h.2 with⟨rfl,o⟩|⟨g,cap,y,rfl,C,D,H,E,A,ht⟩
 ·exact⟨none,0,by rw[o],by simp[vecsL],.inl o,fun b off i s k u e=>by cases e⟩
 ·have j:∀i,i<d.length->w.cell? ⟨g,0+i,none⟩=some (.slice (d.getD i .dflt).a (d.getD i .dflt).n (d.getD i .dflt).c):=fun i f=>by
   rw[χ,z.cellAt i (by omega),ψ,T f,S,T f];rfl
  have m:∀i,i<d.length->(vecsL d).getD i []=(d.getD i .dflt).xs:=fun i f=>by
   unfold vecsL;rw[S,ψ,T f,S,T f];rfl
  refine⟨_,cap,rfl,by simp[vecsL],.inr ⟨g,0,rfl,fun i f=>?_⟩,fun b off i s k u e f p=>?_⟩
  ·have l:=q.get f
   rw[m i f];refine⟨(d.getD i .dflt).a,(d.getD i .dflt).c,?_,?_⟩
   ·rw[l.1.1];exact j i f
   ·rw[l.1.1];exact l.1
  ·simp only[θ,Addr.mk.injEq,and_true]at e
   obtain⟨rfl,rfl⟩:=e;rw[j i f]at p;simp only[θ,Value.slice.injEq]at p;have:=(q.get f).2;omega
def Qt{w:π}{a:List RV}(h:Ae w a)(j:Af a):Ay 1048576 (vecsL a):=fun b f=>by
 obtain⟨r,g,rfl⟩:=List.mem_map.1 f;obtain⟨i,e,rfl⟩:=List.mem_iff_getElem.1 g;have c:=h _ (List.getElem_mem e);have d:=j i;rw[S,T e]at d;simp only[Option.getD_some]at d;exact⟨c.1.2.1,by rw[c.1.1];omega⟩
def E1(d:List RV)(k:Nat):List Z:=(d.take k).map (fun r=>ω r.a r.n r.c)++η (d.length-k) (X none 0 0)
def S7(a:List RV):E1 a 0=η a.length (X none 0 0):=by simp[E1]
def TK(d:List RV):E1 d d.length=d.map fun r=>ω r.a r.n r.c:=by simp[E1]
def S6(d:List RV)(k:Nat)(e:k<d.length):(E1 d k).set k (.slice (d.getD k .dflt).a (d.getD k .dflt).n (d.getD k .dflt).c)=E1 d (k+1):=by
 unfold E1;have f:((d.take k).map fun r=>ω r.a r.n r.c).length=k:=by simp;omega
 rw[List.set_append_right _ _ (by omega),f,Nat.sub_self,List.take_succ_eq_append_getElem e,List.map_append,List.append_assoc,show d.length-k=(d.length-(k+1))+1 by omega,List.replicate_succ,List.set_cons_zero];simp[S,T e]
def Q0(n:Nat)(g:n<=1048576)(wx:π):(Instr.makeSlice 260 (.int .i64 (n:Int)) (.int .i64 (n:Int))).run Tryz.prog wx=.ok (X (some ⟨wx.heap.size,0,none⟩) n n) (wx.alloc (.cells (madeCells #[X none 0 0] n) 40)):=by
 obtain⟨f,a,c,e,d⟩:=info_parts Mc;have:=run_make (P:=Tryz.prog) wx 260 40 f (X none 0 0) underlying260 a c .i64 .i64 (n:Int) (n:Int) (by omega) (Int.le_refl _) (by rw[d];omega) (by omega);rw[e]at this;simpa [Value.cells]using this
def QZ(w:π)(n:Nat)(a:n<=1048576):
  (w.alloc (.cells (madeCells #[X none 0 0] n) 40)).ownsRow w.heap.size 40 1 (X (some ⟨w.heap.size,0,none⟩) n n) n (η n (X none 0 0)):=by
 refine⟨by simp,.inr ⟨w.heap.size,n,madeCells #[X none 0 0] n,by simp,κ _,heap_alloc_new w _,by simp,by unfold maxLen;omega,by simp[size_madeCells],?_⟩⟩;rw[toList_madeCells_one,ι (by simp)]
end Go.Proofs.YtfpmnekaockodaaGreatDoor
namespace Go.Proofs.YtfpmnekaockodaaGreatDoor.Ech
variable {B ks:List Nat}{b r x W:Nat}
def Tri(B:List Nat):Prop:=(∀b∈B,b≠0)/\B.Pairwise fun a b=>b.testBit (low a)=false
def Tri.nil:Tri []:=⟨(fun _ h=>by cases h),List.Pairwise.nil⟩
def Tri.tail(h:Tri (b::B)):Tri B:=⟨fun a c=>h.1 a (ν _ c),(List.pairwise_cons.1 h.2).2⟩
def Tri.head(h:Tri (b::B)):∀a∈B,a.testBit (low b)=false:=(List.pairwise_cons.1 h.2).1
def Tri.snoc(h:Tri B)(f:r≠0)(e:∀b∈B,r.testBit (low b)=false):Tri (B++[r]):=by
 refine⟨fun a c=>?_,List.pairwise_append.2 ⟨h.2,by simp,fun a c b d=>?_⟩⟩
 ·rcases List.mem_append.1 c with c|c
  ·exact h.1 a c
  ·rw[List.mem_singleton.1 c];exact f
 ·rw[List.mem_singleton.1 d];exact e a c
def cL(h:Sp [] x):x=0:=Sp.ind (B:=[]) (P:=fun x=>x=0) rfl (fun b x a _=>by cases a) h
def Y0(h:Sp (b::B) x):Sp B x\/Sp B (b^^^x):=by
 refine Sp.ind (P:=fun x=>Sp B x\/Sp B (b^^^x)) (.inl .zero) (fun c x d a=>?_) h;rcases List.mem_cons.1 d with e|d
 ·subst e
  rcases a with a|a
  ·right
   rw[<-μ,ζ,ξ];exact a
  ·exact .inl a
 ·rcases a with a|a
  ·exact .inl (.add d a)
  ·right
   rw[Qh];exact .add d a
def Q9{i:Nat}(h:∀b∈B,b.testBit i=false)(k:Sp B x):x.testBit i=false:=by
 refine Sp.ind (P:=fun x=>x.testBit i=false) (Nat.zero_testBit _) (fun b x a c=>?_) k;rw[U,h b a,c];rfl
def MG:∀{B:List Nat},Tri B->∀{x:Nat},Sp B x->(∀b∈B,x.testBit (low b)=false)->x=0
 |[],_,x,k,_=>cL k
 |b::B,h,x,k,e=>by
  rcases Y0 k with c|c
  ·exact MG h.tail c fun a f=>e a (ν _ f)
  ·have d:=Q9 h.head c
   rw[U,low_bit (h.1 b ε),e b ε]at d;cases d
def K8:∀{B:List Nat},Tri B->∀v:Nat,(∀b∈B,(red B v).testBit (low b)=false)/\Sp B (v^^^red B v)
 |[],_,v=>⟨(fun _ h=>by cases h),by show Sp [] (v^^^v);rw[ζ];exact .zero⟩
 |b::B,h,v=>by
  have i:=h.1 b ε
  have d:∀v':Nat,v'.testBit (low b)=false->Sp (b::B) (v^^^v')->(∀a∈b::B,(red B v').testBit (low a)=false)/\Sp (b::B) (v^^^red B v'):=fun v' l m=>by
   obtain⟨n,j⟩:=K8 h.tail v';have g:=Q9 h.head j;rw[U,l]at g;refine⟨fun a c=>?_,?_⟩
   ·rcases List.mem_cons.1 c with e|c
    ·rw[e];simpa using g
    ·exact n a c
   ·have:=m.xor (j.mono fun a c=>ν _ c)
    rwa[μ,<-μ v' v',ζ,ξ]at this
  show(∀a∈b::B,(red B (if b≠0/\v.testBit (low b)=true then v^^^b else v)).testBit (low a)=false)/\Sp (b::B) (v^^^red B (if b≠0/\v.testBit (low b)=true then v^^^b else v));by_cases f:v.testBit (low b)=true
  ·rw[if_pos ⟨i,f⟩]
   refine d _ (by rw[U,f,low_bit i];rfl) ?_;rw[<-μ,ζ,ξ];exact .of_mem ε
  ·rw[if_neg (fun k=>f k.2)]
   refine d _ (by simpa using f) ?_;rw[ζ];exact .zero
def PP{v:Nat}(h:Sp B (v^^^r))(k:Sp B v):Sp B r:=by
 have:=k.xor h;rwa[<-μ,ζ,ξ]at this
def tri_zero(h:Tri B)(v:Nat):red B v=0↔Sp B v:=by
 obtain⟨c,a⟩:=K8 h v;constructor
 ·intro e
  rw[e,τ]at a;exact a
 ·intro k
  exact MG h (PP a k) c
def addT(B:List Nat)(v:Nat):List Nat:=if red B v=0 then B else B++[red B v]
def Tri.addT(h:Tri B)(v:Nat):Tri (addT B v):=by
 unfold Ech.addT;split
 ·exact h
 ·rename_i a;exact h.snoc a (K8 h v).1
def PN(h:Tri B)(v x:Nat):Sp (addT B v) x↔Sp (B++[v]) x:=by
 have d:=(K8 h v).2;unfold addT;split
 ·rename_i e
  have f:=(tri_zero h v).1 e;refine⟨fun k=>k.mono fun a c=>V _ c,fun k=>k.of fun a c=>?_⟩;rcases List.mem_append.1 c with c|c
  ·exact .of_mem c
  ·rw[List.mem_singleton.1 c];exact f
 ·constructor
  ·intro k
   refine k.of fun a c=>?_;rcases List.mem_append.1 c with c|c
   ·exact .of_mem (V _ c)
   ·rw[List.mem_singleton.1 c]
    exact PP (d.mono fun a c=>V _ c) (.of_mem (by simp))
  ·intro k
   refine k.of fun a c=>?_;rcases List.mem_append.1 c with c|c
   ·exact .of_mem (V _ c)
   ·rw[List.mem_singleton.1 c]
    refine PP (v:=red B v) ?_ (.of_mem (by simp));rw[Nat.xor_comm];exact d.mono fun a c=>V _ c
def foldl_addT:∀(l B:List Nat),Tri B->Tri (l.foldl addT B)/\∀x,Sp (l.foldl addT B) x↔Sp (B++l) x
 |[],B,h=>⟨h,fun x=>by simp⟩
 |v::l,B,h=>by
  obtain⟨g,i⟩:=foldl_addT l (addT B v) (h.addT v);refine⟨g,fun x=>?_⟩;show Sp (l.foldl addT (addT B v)) x↔_;rw[i];constructor
  ·intro k
   refine k.of fun a d=>?_;rcases List.mem_append.1 d with d|d
   ·exact((PN h v a).1 (.of_mem d)).mono fun c f=>by
     rcases List.mem_append.1 f with f|f
     ·simp[f]
     ·rw[List.mem_singleton.1 f];simp
   ·exact .of_mem (by simp[d])
  ·intro k
   refine k.of fun a d=>?_;rcases List.mem_append.1 d with d|d
   ·exact((PN h v a).2 (.of_mem (by simp[d]))).mono fun c f=>V _ f
   ·rcases List.mem_cons.1 d with e|d
    ·rw[e]
     exact((PN h v v).2 (.of_mem (by simp))).mono fun c f=>V _ f
    ·exact .of_mem (List.mem_append_right _ d)
def lin(ks:List Nat)(c:Nat):Nat->Nat
 |0=>0
 |n+1=>lin ks c n^^^(if c.testBit n=true then ks.getD n 0 else 0)
def lf(ks:List Nat){c d:Nat}:∀n,(∀i,i<n->c.testBit i=d.testBit i)->lin ks c n=lin ks d n
 |0,_=>rfl
 |n+1,h=>by simp only[lin];rw[lf ks n fun i a=>h i (by omega),h n (by omega)]
def U1{ks ks':List Nat}(c:Nat):∀n,(∀i,i<n->ks.getD i 0=ks'.getD i 0)->lin ks c n=lin ks' c n
 |0,_=>rfl
 |n+1,h=>by simp only[lin];rw[U1 c n fun i a=>h i (by omega),h n (by omega)]
def W3(ks:List Nat)(c d:Nat):∀n,lin ks (c^^^d) n=lin ks c n^^^lin ks d n
 |0=>by simp[lin]
 |n+1=>by
  simp only[lin,U,W3 ks c d n];generalize lin ks c n=x;generalize lin ks d n=y;generalize ks.getD n 0=z;apply α;intro i;cases c.testBit n<;>cases d.testBit n<;>simp[U]<;>cases x.testBit i<;>cases y.testBit i<;>cases z.testBit i<;>rfl
def U6(ks:List Nat):∀n,lin ks 0 n=0
 |0=>rfl
 |n+1=>by simp[lin,U6 ks n]
def U5(ks:List Nat)(j:Nat):∀n,lin ks (2^j) n=if j<n then ks.getD j 0 else 0
 |0=>by simp[lin]
 |n+1=>by
  simp only[lin];rw[U5 ks j n,γ];by_cases c:j<n
  ·have a:decide (j=n)=false:=by simp;omega
   rw[if_pos c,if_pos (show j<n+1 by omega),a,if_neg (by decide),τ]
  ·rw[if_neg c]
   by_cases d:j=n
   ·subst d
    rw[if_pos (show j<j+1 by omega),decide_eq_true rfl,if_pos rfl,ξ]
   ·have a:decide (j=n)=false:=by simpa using d
    rw[if_neg (show¬j<n+1 by omega),a,if_neg (by decide),τ]
def Nb(ks:List Nat)(c:Nat):∀n,n<=ks.length->Sp ks (lin ks c n)
 |0,_=>.zero
 |n+1,h=>by
  simp only[lin];refine(Nb ks c n (by omega)).xor ?_;split
  ·refine .of_mem ?_
   rw[S,T (show n<ks.length by omega)];exact List.getElem_mem _
  ·exact .zero
def lin_of_sp(h:Sp ks x):∃c,c<2^ks.length/\lin ks c ks.length=x:=by
 refine Sp.ind (P:=fun x=> ∃c,c<2^ks.length/\lin ks c ks.length=x) ⟨0,Nat.two_pow_pos _,U6 _ _⟩ (fun b x d f=>?_) h;obtain⟨c,e,rfl⟩:=f;obtain⟨j,a,rfl⟩:=ο d;refine⟨2^j^^^c,Nat.xor_lt_two_pow (Nat.pow_lt_pow_right (by decide) a) e,?_⟩;rw[W3,U5,if_pos a,S,T a];rfl
def Ind(ks:List Nat):Prop:=∀c,c<2^ks.length->lin ks c ks.length=0->c=0
def Ind.nil:Ind []:=fun c a _=>by simp at a;exact a
def ln{c n:Nat}(h:c<2^(n+1))(d:c.testBit n=false):c<2^n:=by
 rw[Nat.pow_succ]at h;rw[Nat.testBit_eq_decide_div_mod_eq]at d;have e:c/2^n<2:=Nat.div_lt_of_lt_mul h;have f:c/2^n=0:=by
  have a:¬c/2^n%2=1:=of_decide_eq_false d;generalize c/2^n=q at*;omega
 rcases Nat.lt_or_ge c (2^n)with a|a
 ·exact a
 ·have:=Nat.div_pos a (Nat.two_pow_pos n);omega
def Ind.snoc(h:Ind ks)(j:¬Sp ks r):Ind (ks++[r]):=by
 intro c f a;rw[List.length_append,List.length_singleton]at f a;simp only[lin]at a;rw[U1 (ks':=ks) c ks.length fun i g=>by rw[S,β g,<-S]]at a;have e:(ks++[r]).getD ks.length 0=r:=by simp[S]
 rw[e]at a;by_cases d:c.testBit ks.length=true
 ·rw[if_pos d]at a
  exact absurd (by rw[<-eq_of_xor a];exact Nb ks c ks.length (κ _)) j
 ·rw[if_neg d,τ]at a
  exact h c (ln f (by simpa using d)) a
def low_lt{d:Nat}(c:d≠0)(h:d<2^W):low d<W:=by
 rcases Nat.lt_or_ge (low d) W with a|a
 ·exact a
 ·have e:d<2^low d:=Nat.lt_of_lt_of_le h (Nat.pow_le_pow_right (by decide) a)
  have:=low_bit c;rw[Nat.testBit_lt_two_pow e]at this;cases this
def Up{c i:Nat}(h:i<W):(c<<<W).testBit i=false:=by
 rw[Y];simp;omega
def shift_high(c W i:Nat):(c<<<W).testBit (W+i)=c.testBit i:=by
 rw[Y];simp
def U3{ks R:List Nat}{P:Nat->Nat}{W:Nat}(a:∀x y,P (x^^^y)=P x^^^P y)(c:Nat):
  ∀n,(∀i,i<n->R.getD i 0=P (ks.getD i 0)^^^2^(W+i))->lin R c n=P (lin ks c n)^^^((c%2^n)<<<W)
 |0,_=>by
  have e:P 0=0:=by have:=a 0 0;simpa using this
  simp[lin,e,Nat.mod_one]
 |n+1,h=>by
  have e:P 0=0:=by have:=a 0 0;simpa using this
  simp only[lin];rw[U3 a c n fun i p=>h i (by omega),h n (by omega),a];have m:(c%2^(n+1))<<<W=((c%2^n)<<<W)^^^(if c.testBit n=true then 2^(W+n)else 0):=by
   apply α;intro i;rw[U,Y,Y,υ,υ];by_cases o:i<W
   ·have:decide (i≥W)=false:=by simp;omega
    rw[this];split
    ·rw[γ];simp;omega
    ·simp
   ·obtain⟨j,rfl⟩:∃j,i=W+j:=⟨i-W,by omega⟩
    rw[Nat.add_sub_cancel_left];have:decide (W+j≥W)=true:=by simp
    rw[this];by_cases f:j=n
    ·subst f
     split<;>rename_i d<;>simp[d]
    ·have g:(2^(W+n)).testBit (W+j)=false:=by rw[γ];simp;omega
     have k:decide (j<n+1)=decide (j<n):=by by_cases l:j<n<;>simp[l]<;>omega
     rw[k];split
     ·rw[g];simp
     ·simp
  rw[m];by_cases d:c.testBit n=true
  ·simp only[d,if_true]
   generalize P (lin ks c n)=x;generalize P (ks.getD n 0)=y;generalize (c%2^n)<<<W=z;generalize 2^(W+n)=u;apply α;intro i;simp only[U];cases x.testBit i<;>cases y.testBit i<;>cases z.testBit i<;>cases u.testBit i<;>rfl
  ·simp[d,e]
def mark_red{R:List Nat}{P:Nat->Nat}(C:∀x y,P (x^^^y)=P x^^^P y)(u:∀x,Sp ks x->P x<2^W)(j:∀x,Sp ks x->P x=0->x=0)(A:Ind ks)
  (D:R.length=ks.length) (q:∀i,i<ks.length->R.getD i 0=P (ks.getD i 0)^^^2^(W+i)) (p:Tri B) (z:∀x,Sp B x↔Sp R x) {c:Nat} (E:c<2^ks.length):
  red B (P (lin ks c ks.length))=c<<<W:=by
 have a:=fun d=>U3 (ks:=ks) (R:=R) (W:=W) C d ks.length q
 have f:∀b∈B,low b<W:=fun b h=>by
  obtain⟨d,s,g⟩:=lin_of_sp ((z b).1 (.of_mem h));rw[D]at s g;rw[a d,Nat.mod_eq_of_lt s]at g;have l:=Nb ks d ks.length (κ _)
  have k:P (lin ks d ks.length)≠0:=fun e=>by
   have n:=A d s (j _ l e);subst n;rw[e]at g;simp at g;exact p.1 b h g.symm
  have m:=low_lt k (u _ l);have o:b.testBit (low (P (lin ks d ks.length)))=true:=by rw[<-g,U,low_bit k,Up m];rfl
  exact Nat.lt_of_le_of_lt (QX o) m
 obtain⟨n,m⟩:=K8 p (P (lin ks c ks.length));have o:Sp B (P (lin ks c ks.length)^^^c<<<W):=by
  refine(z _).2 ?_;have:=a c;rw[Nat.mod_eq_of_lt E]at this;rw[<-this];exact Nb R c ks.length (by omega)
 apply eq_of_xor;refine MG p ?_ fun b h=>?_
 ·have:=m.xor o
  rwa[S5]at this
 ·rw[U,n b h,Up (f b h)];rfl
def proj(fs:List Nat)(x:Nat):Nat->Nat
 |0=>0
 |n+1=>proj fs x n^^^(if x.testBit (fs.getD n 0)=true then 2^n else 0)
def proj_bit(fs:List Nat)(x j:Nat):∀n,(proj fs x n).testBit j=(decide (j<n)&&x.testBit (fs.getD j 0))
 |0=>by simp[proj]
 |n+1=>by
  simp only[proj];rw[U,proj_bit fs x j n];by_cases e:j=n
  ·subst e
   have d:decide (j<j)=false:=by simp
   have a:decide (j<j+1)=true:=by simp
   rw[d,a];generalize x.testBit (fs.getD j 0)=c;cases c<;>simp
  ·have a:decide (j<n+1)=decide (j<n):=by by_cases f:j<n<;>simp[f]<;>omega
   rw[a];split
   ·rw[γ]
    have:decide (n=j)=false:=by simp;omega
    rw[this];simp
   ·simp
def proj_xor(fs:List Nat)(n x y:Nat):proj fs (x^^^y) n=proj fs x n^^^proj fs y n:=by
 apply α;intro j;rw[U,proj_bit,proj_bit,proj_bit,U];cases decide (j<n)<;>cases x.testBit (fs.getD j 0)<;>cases y.testBit (fs.getD j 0)<;>rfl
def proj_lt(fs:List Nat)(x n:Nat):proj fs x n<2^n:=by
 apply Nat.lt_pow_two_of_testBit;intro j a;rw[proj_bit];simp;omega
def proj_inj(d:Tri B){fs:List Nat}(f:fs=B.map low){x:Nat}(g:Sp B x)(h:proj fs x B.length=0):x=0:=by
 refine MG d g fun b e=>?_;obtain⟨j,c,rfl⟩:=ο e;have a:=proj_bit fs x j B.length;rw[h,f]at a;simpa [c,S,T c]using a.symm
end Go.Proofs.YtfpmnekaockodaaGreatDoor.Ech
