/- Laws for the proof. -/
import Derived.Test.YtfpmnekaockodaaGreatDoorU19
set_option linter.all false
open Go.Proofs.Tryz
open Go.IntKind renaming i64->U
open Go.Value renaming int->γ,string->δ,slice->ε
open Option renaming none->ζ,some->ι
open Nat renaming le_refl->η,add_assoc->ρ,lt_of_le_of_lt->φ,le_trans->ψ
open Go renaming World->θ,Value->ν
open List renaming range_succ->κ,getD_eq_getElem?_getD->π,getElem?_eq_getElem->σ,length_append->τ,replicate->υ,getElem_mem->χ,length_singleton->ω,set_append_right->Α
open Go.RowKit.Below renaming refl->μ
open Go.Obj renaming cells->ξ
open Go.Proofs.Tryz renaming prog->ο
open Go.RowKit renaming Below->ς
namespace Go.Proofs.YtfpmnekaockodaaGreatDoor
open Go.RowKit Go.Sort
set_option maxRecDepth 4000
set_option maxHeartbeats 8000000
variable {L:List PD}{B g n m B':Nat}{F:Nat->Prop}{v v1:ν}{w w' w1:θ}
def Ma:(Tryz.prog.info? 75).map (fun i=>(i.zero,i.size,i.bytes))=ι (ι (.agg #[.int U 0,.int U 0,.int U 0,.int U 0,.int U 0,ε none 0 0,δ ⟨#[]⟩]),7,80):=by kernel_rfl
def PKV.cells(p:PKV):List ν:=[.int U p.o,.int U p.l,.int U p.k,.int U p.z,.int U p.h,.slice p.r.a p.r.n p.r.c,δ p.r.s]
def cellsK(ps:List PKV):List ν:=ps.flatMap PKV.cells
def Im:∀ps:List PKV,(cellsK ps).length=ps.length*7
 |[]=>rfl
 |p::ps=>by
  show(p.cells++cellsK ps).length=_;rw[τ,Im ps,List.length_cons,Nat.add_mul,Nat.one_mul,Nat.add_comm];rfl
def Kl(a b:List PKV):cellsK (a++b)=cellsK a++cellsK b:=List.flatMap_append
def Oi:∀(ps:List PKV) (i j:Nat),i<ps.length->j<7->(cellsK ps)[i*7+j]? =(ps.getD i .dflt).cells[j]?
 |[],i,j,h,_=>by simp at h
 |p::ps,0,j,_,a=>by
  show(p.cells++cellsK ps)[0*7+j]? =_;rw[Nat.zero_mul,Nat.zero_add,List.getElem?_append_left (by show j<7;exact a)];rfl
 |p::ps,i+1,j,h,a=>by
  have:=Oi ps i j (by simpa using h) a;show(p.cells++cellsK ps)[(i+1)*7+j]? =_;rw[List.getElem?_append_right (by show 7<=_;omega),show(i+1)*7+j-p.cells.length=i*7+j from by show(i+1)*7+j-7=_;omega,this];rfl
def LS(p:PKV):∀u∈p.cells,u.oneCell'=true:=fun u a=>by
 unfold PKV.cells at a;simp only[List.mem_cons,List.not_mem_nil,or_false]at a;rcases a with h|h|h|h|h|h|h<;>(rw[h];rfl)
def iA(ps:List PKV):∀u∈cellsK ps,u.oneCell'=true:=fun u a=>by
 obtain⟨p,_,hp⟩:=List.mem_flatMap.1 a;exact LS p u hp
def KsIn(w:θ)(ps:List PKV):Prop:=∀p∈ps,RowAt w p.r.a p.r.n p.r.xs/\p.r.n<=p.r.c
def KsIn.below{ps:List PKV}(h:KsIn w ps)(a:ς w.heap.size w w'):KsIn w' ps:=fun p hp=>⟨(h p hp).1.below a,(h p hp).2⟩
def KsIn.get{ps:List PKV}(h:KsIn w ps){i:Nat}(b:i<ps.length):RowAt w (ps.getD i .dflt).r.a (ps.getD i .dflt).r.n (ps.getD i .dflt).r.xs/\(ps.getD i .dflt).r.n<=(ps.getD i .dflt).r.c:=by
 have:=h ps[i] (χ b);rwa[π,σ b]
def KsIn.sub{a b:List PKV}(h:KsIn w b)(c:∀p∈a,p∈b):KsIn w a:=fun p hp=>h p (c p hp)
def OwnP(w:θ)(B:Nat)(v:ν)(ps:List PKV):Prop:=w.ownsRow B 75 7 v ps.length (cellsK ps)
def OwnP.nil(w:θ)(B:Nat):OwnP w B (ε none 0 0) []:=World.ownsRow_nil _ _ _ _
def OwnP.cellAt{c:Nat}{ps:List PKV}(h:OwnP w B (ε (ι ⟨g,0,ζ⟩) n c) ps){j:Nat}{u:ν}(a:(cellsK ps)[j]? =ι u):w.cell? ⟨g,j,ζ⟩=ι u:=by
 have:=World.ownsRow.cells h (g:=g) rfl j u a;rwa[show(⟨g,0,ζ⟩:Addr).add j=⟨g,j,ζ⟩ by unfold Addr.add;split<;>simp_all]at this
def OwnP.pks{ps:List PKV}(h:OwnP w B v ps)(q:KsIn w ps):∃a c,v=ε a ps.length c/\PksAt w a ps.length ps/\ps.length<=c/\c<=9223372036854775807:=by
 have k:=h;rcases h.2 with⟨rfl,e⟩|⟨g,cap,f,rfl,x,y,p,o,r,ht⟩
 ·exact⟨ζ,0,by rw[e],⟨rfl,fun i d=>by omega,.inl e⟩,by omega,by omega⟩
 ·refine⟨_,cap,rfl,⟨rfl,fun i d=>(q.get d).1,.inr ⟨g,0,rfl,fun i d=>?_⟩⟩,p,by simpa [maxLen]using o⟩
  have b:∀j,j<7->∀u,(ps.getD i .dflt).cells[j]? =ι u->w.cell? ⟨g,i*7+j,ζ⟩=ι u:=fun j l u s=>k.cellAt (by rw[Oi ps i j d l];exact s);rw[Nat.zero_add];exact⟨b 0 (by decide) _ rfl,b 1 (by decide) _ rfl,b 2 (by decide) _ rfl,b 3 (by decide) _ rfl,b 4 (by decide) _ rfl,b 5 (by decide) _ rfl,b 6 (by decide) _ rfl⟩
def OwnP.shape{ps:List PKV}(h:OwnP w B v ps):∃a c,v=ε a ps.length c:=by
 rcases h.2 with⟨rfl,d⟩|⟨g,cap,b,rfl,_⟩
 ·exact⟨ζ,0,by rw[d]⟩
 ·exact⟨_,cap,rfl⟩
def OwnP.at'{a:Option Addr}{c:Nat}{ps:List PKV}(h:OwnP w B (ε a m c) ps)(i:KsIn w ps):PksAt w a m ps/\m=ps.length/\m<=c/\c<=9223372036854775807:=by
 obtain⟨j,k,e,b,d,f⟩:=h.pks i;simp only[Value.slice.injEq]at e;obtain⟨rfl,rfl,rfl⟩:=e;exact⟨b,rfl,d,f⟩
def OwnP.mono{ps:List PKV}(h:OwnP w B v ps)(d:B'<=B):OwnP w B' v ps:=by
 refine⟨h.1,?_⟩;rcases h.2 with b|⟨g,cap,a,c,e,r⟩
 ·exact .inl b
 ·exact .inr ⟨g,cap,a,c,ψ d e,r⟩
def OwnP.below{ps:List PKV}(h:OwnP w B v ps)(e:ς w.heap.size w w'):OwnP w' B v ps:=by
 refine⟨h.1,?_⟩;rcases h.2 with c|⟨g,cap,b,d,f,a,r⟩
 ·exact .inl c
 ·exact .inr ⟨g,cap,b,d,f,(e.block g (Array.getElem?_eq_some_iff.1 a).1).trans a,r⟩
def OwnP.tu{ps:List PKV}(h:OwnP w B v ps)(ht:Tu F w w')(e:∀j,v.ownBlock=ι j->¬F j):OwnP w' B v ps:=by
 refine⟨h.1,?_⟩;rcases h.2 with d|⟨g,cap,b,c,f,a,r⟩
 ·exact .inl d
 ·exact .inr ⟨g,cap,b,c,f,(ht.block g (Array.getElem?_eq_some_iff.1 a).1 (e g (by rw[c];rfl))).trans a,r⟩
def OwnP.blk{ps:List PKV}(h:OwnP w B v ps)(b:v.ownBlock=ι g):∃a,w.heap[g]? =ι (.cells a 75 (0,0)):=by
 rcases h.2 with⟨rfl,_⟩|⟨g',cap,a,rfl,_,c,_⟩
 ·cases b
 ·simp only[Value.ownBlock,Option.some.injEq]at b
  exact⟨a,b▸c⟩
def BkA.neP{T:TypeId}{cs:List ν}{ps:List PKV}(h:BkA T w g cs)(d:OwnP w B v ps)(b:T≠75):v.ownBlock≠ι g:=fun e=>by
 obtain⟨a,c⟩:=d.blk e;exact h.ne c b rfl
def N1{ops:Array Oper}{rest:List Oper}{o:Oper}{act:Act}{Q:Exit->Act->θ->Prop}(f:o.guard=ζ)(s x:Operand)
  (I:o.op=.call {callee:=.builtin .append,args:=#[s,x],argTypes:=#[69,69]}) (B:Nat) (v:ν) (ps:List PKV) (p:PKV)
  (J:act.eval s=v) (K:act.eval x=ε (ι ⟨w.heap.size,0,ζ⟩) 1 1) (h:OwnP w B v ps) (D:B<=w.heap.size) (O:ps.length<=1000000)
  (E:∀g cap w',OwnP w' B (ε (ι ⟨g,0,ζ⟩) (ps.length+1) cap) (ps++[p])->w.grownBy w' v.ownBlock->(v.ownBlock=ι g\/w.heap.size<=g)->wpList ο ops Q rest (act.put o.dst (ε (ι ⟨g,0,ζ⟩) (ps.length+1) cap)) w'):
  wpList ο ops Q (o::rest) act (w.alloc (ξ #[.int U p.o,.int U p.l,.int U p.k,.int U p.z,.int U p.h,.slice p.r.a p.r.n p.r.c,δ p.r.s] 75)):=by
 obtain⟨N,H,i,j,q⟩:=info_parts Ma;have b:ς w.heap.size w (w.alloc (ξ #[.int U p.o,.int U p.l,.int U p.k,.int U p.z,.int U p.h,.slice p.r.a p.r.n p.r.c,δ p.r.s] 75)):=(μ _ _).alloc (η _) _;have u:(w.alloc (ξ #[.int U p.o,.int U p.l,.int U p.k,.int U p.z,.int U p.h,.slice p.r.a p.r.n p.r.c,δ p.r.s] 75)).ownsRow B 75 7 v ps.length (cellsK ps):=h.below b;have d:(w.alloc (ξ #[.int U p.o,.int U p.l,.int U p.k,.int U p.z,.int U p.h,.slice p.r.a p.r.n p.r.c,δ p.r.s] 75)).heap[w.heap.size]? =ι (ξ #[.int U p.o,.int U p.l,.int U p.k,.int U p.z,.int U p.h,.slice p.r.a p.r.n p.r.c,δ p.r.s] 75 (0,0)):=AI 75 w p.cells
 refine wpList_append_lies _ f s x 69 I B 75 N _ 7 80 underlying69 H i j q rfl (by decide) v ps.length (cellsK ps) J u ⟨w.heap.size,0,ζ⟩ 1 1 p.cells K rfl
  (World.news_of_block d) (LS p) (by decide) (by unfold maxLen;omega) (by omega) (ψ D b.size) _ rfl (fun g cap w' y A C _=>E g cap w' ?_ (Bx (CD b _) A (.inl rfl)) (C.imp id fun e=>by rw[e];exact b.size))
 show w'.ownsRow B 75 7 _ (ps++[p]).length (cellsK (ps++[p]));rw[τ,Kl,show cellsK [p]=p.cells from List.append_nil _];exact y
def alkH:List PD->PD->Bool
 |[],_=>true
 |q::_,p=>Bt q p
def Du(m:Nat)(L:List PD)(p:PD):Bool:=decide (0<m)&&BM p&&alkH L p&&Fp (vecsD L) p.xs
def degD(L:List PD)(i:Nat):Nat:=cnt (L.getD i .dflt).xs
def goesTo(L:List PD):Nat->Nat
 |0=>0
 |i+1=>if degD L (goesTo L i)<degD L i then i else goesTo L i
def Sj(L:List PD)(i:Nat):goesTo L (i+1)=if degD L (goesTo L i)<degD L i then i else goesTo L i:=rfl
def LQ(L:List PD):∀n,0<n->goesTo L n<n/\(∀j,j<n->degD L j<=degD L (goesTo L n))/\∀j,j<goesTo L n->degD L j<degD L (goesTo L n)
 |0,h=>by omega
 |1,_=>by
  have h:goesTo L 1=0:=by rw[Sj];exact if_neg (Nat.lt_irrefl _)
  rw[h];exact⟨by omega,fun j a=>by rw[show j=0 by omega];exact η _,fun j a=>by omega⟩
 |n+2,_=>by
  obtain⟨d,b,c⟩:=LQ L (n+1) (by omega);rw[Sj L (n+1)];by_cases h:degD L (goesTo L (n+1))<degD L (n+1)
  ·rw[if_pos h]
   refine⟨by omega,fun j a=>?_,fun j a=>φ (b j a) h⟩;rcases Nat.lt_or_ge j (n+1)with e|e
   ·exact Nat.le_of_lt (φ (b j e) h)
   ·rw[show j=n+1 by omega];exact η _
  ·rw[if_neg h]
   refine⟨by omega,fun j a=>?_,c⟩;rcases Nat.lt_or_ge j (n+1)with e|e
   ·exact b j e
   ·rw[show j=n+1 by omega];omega
def Sk(c:g<n)(a:∀j,j<n->degD L j<=degD L g)(b:∀j,j<g->degD L j<degD L g):goesTo L n=g:=by
 obtain⟨d,f,h⟩:=LQ L n (by omega);have i:=a _ d;have k:=f g c;rcases Nat.lt_trichotomy (goesTo L n) g with e|e|e
 ·have:=b _ e;omega
 ·exact e
 ·have:=h _ e;omega
def leftD(m:Nat)(L:List PD):List PD:=if m<=L.length then L.eraseIdx (goesTo L L.length)else L
def Il(m:Nat)(L:List PD)(p:PD):List PD:=if Du m L p=true then leftD m L++[p]else L
structure Be(m:Nat)(L:List PD):Prop where
 le:L.length<=m
 ok:∀p∈L,BM p=true
 alk:∀p∈L,∀q∈L,Bt p q=true
 sm:∀p∈L,Ac p.xs
def Be.nil(m:Nat):Be m []:=⟨Nat.zero_le _,(fun _ h=>by cases h),(fun _ h=>by cases h),(fun _ h=>by cases h)⟩
def Be.fit(h:Be m L):Ay 1048576 (vecsD L):=fun v a=>by
 obtain⟨p,hp,rfl⟩:=List.mem_map.1 a;exact⟨h.sm p hp,by have:=JZ (h.ok p hp);omega⟩
def GM:∀p∈leftD m L,p∈L:=fun p hp=>by
 unfold leftD at hp;split at hp
 ·exact List.mem_of_mem_eraseIdx hp
 ·exact hp
def UZ(h:L.length<=m)(a:0<m):(leftD m L).length+1<=m/\(leftD m L).length<=L.length/\L.length<=(leftD m L).length+1:=by
 unfold leftD;by_cases e:m<=L.length
 ·rw[if_pos e,List.length_eraseIdx_of_lt (LQ L L.length (by omega)).1]
  omega
 ·rw[if_neg e];omega
def SS{p:PD}(h:Du m L p=true):0<m/\BM p=true/\alkH L p=true/\Fp (vecsD L) p.xs=true:=by
 unfold Du at h;rw[Bool.and_eq_true,Bool.and_eq_true,Bool.and_eq_true,decide_eq_true_eq]at h;exact⟨h.1.1.1,h.1.1.2,h.1.2,h.2⟩
def Be.alkH(h:Be m L){p:PD}(hp:alkH L p=true):∀q∈L,Bt q p=true:=fun q b=>by
 cases L with
 |nil=>cases b
 |cons a L=>exact Tw (h.alk q b a List.mem_cons_self) hp
def Be.put(h:Be m L){p:PD}(i:Ac p.xs):Be m (Il m L p):=by
 unfold Il;by_cases ht:Du m L p=true
 ·rw[if_pos ht]
  obtain⟨e,f,d,_⟩:=SS ht;have c:=h.alkH d;refine⟨by rw[τ,ω];exact(UZ h.le e).1,fun q a=>?_,fun q a r b=>?_,fun q a=>?_⟩
  ·rcases List.mem_append.1 a with a|a
   ·exact h.ok q (GM q a)
   ·rw[List.mem_singleton.1 a];exact f
  ·rcases List.mem_append.1 a with a|a<;>rcases List.mem_append.1 b with b|b
   ·exact h.alk q (GM q a) r (GM r b)
   ·rw[List.mem_singleton.1 b];exact c q (GM q a)
   ·rw[List.mem_singleton.1 a];exact Vu (c r (GM r b))
   ·rw[List.mem_singleton.1 a,List.mem_singleton.1 b];exact Pc p
  ·rcases List.mem_append.1 a with a|a
   ·exact h.sm q (GM q a)
   ·rw[List.mem_singleton.1 a];exact i
 ·rw[if_neg ht];exact h
def Be.get(h:Be m L){i:Nat}(a:i<L.length):BM (L.getD i .dflt)=true/\Bt (L.getD 0 .dflt) (L.getD i .dflt)=true:=by
 have b:L.getD i .dflt∈L:=by rw[π,σ a];exact χ a
 have c:L.getD 0 .dflt∈L:=by rw[π,σ (show 0<L.length by omega)];exact χ _
 exact⟨h.ok _ b,h.alk _ c _ b⟩
def Be.deg(h:Be m L){i:Nat}(e:i<L.length):(degD L i:Int)<=(L.getD 0 .dflt).k/\(L.getD 0 .dflt).k<=128:=by
 obtain⟨b,a⟩:=h.get e;unfold Bt at a;rw[decide_eq_true_eq]at a;have c:=Zi b;have d:=(I5 b).2.2.2.2.1;unfold degD;rw[a.2.2.1];exact⟨c,d⟩
def Uo{α β:Type}(f:α->β):∀(l:List α) (i:Nat),(l.eraseIdx i).map f=(l.map f).eraseIdx i
 |[],_=>rfl
 |a::l,0=>rfl
 |a::l,i+1=>by simp only[List.eraseIdx_cons_succ,List.map_cons];rw[Uo f l i]
def Aq(w:θ)(B:Nat)(ps:List PKV):Prop:=∀p∈ps,Own w B (.slice p.r.a p.r.n p.r.c) p.r.xs
def Aq.nil(w:θ)(B:Nat):Aq w B []:=fun r a=>by cases a
def Aq.below{ps:List PKV}(h:Aq w B ps)(a:ς w.heap.size w w'):Aq w' B ps:=fun r b=>(h r b).below a
def Aq.mono{ps:List PKV}(h:Aq w B ps)(a:B'<=B):Aq w B' ps:=fun r b=>(h r b).mono a
def Aq.snoc{ps:List PKV}{p:PKV}(h:Aq w B ps)(d:Own w B (.slice p.r.a p.r.n p.r.c) p.r.xs):Aq w B (ps++[p]):=fun x b=>by
 rcases List.mem_append.1 b with b|b
 ·exact h x b
 ·rw[List.mem_singleton.1 b];exact d
def Aq.sub{a b:List PKV}(h:Aq w B b)(c:∀p∈a,p∈b):Aq w B a:=fun p hp=>h p (c p hp)
def Aq.ks{ps:List PKV}(h:Aq w B ps):KsIn w ps:=fun r b=>by
 obtain⟨a,c,e,i⟩:=(h r b).row;simp only[Value.slice.injEq]at e;obtain⟨d,f,j⟩:=e;exact⟨by rw[d,f];exact i,(h r b).cap⟩
def Aq.tu{ps:List PKV}(h:Aq w B ps)(ht:Tu F w w')(c:∀j a,w.heap[j]? =ι (.cells a 265 (0,0))->¬F j):Aq w' B ps:=fun r b=>
 (h r b).tu ht fun j e=>by
  obtain⟨a,d⟩:=(h r b).blkU e;exact c j a d
def CO(g:Nat)(v:ν)(k:Nat):Prop:=k=g\/v.ownBlock=ι k
structure Av(w:θ)(g B m:Nat)(v:ν)(ps:List PKV):Prop where
 blk:BkA 237 w g [.int U (m:Int),v]
 lo:B<=g
 own:OwnP w B v ps
 rows:Aq w B ps
 inv:Be m (ps.map PKV.pd)
 most:m<=256
def Av.below{ps:List PKV}(h:Av w g B m v ps)(a:ς w.heap.size w w'):Av w' g B m v ps:=
 ⟨h.blk.below a,h.lo,h.own.below a,h.rows.below a,h.inv,h.most⟩
def Av.mono{ps:List PKV}(h:Av w g B m v ps)(a:B'<=B):Av w g B' m v ps:=
 ⟨h.blk,ψ a h.lo,h.own.mono a,h.rows.mono a,h.inv,h.most⟩
def Av.lt{ps:List PKV}(h:Av w g B m v ps):g<w.heap.size:=h.blk.lt
def Av.lob{ps:List PKV}(h:Av w g B m v ps):B<=w.heap.size:=Nat.le_of_lt (φ h.lo h.lt)
def Av.len{ps:List PKV}(h:Av w g B m v ps):ps.length<=m/\ps.length<=256:=by
 have a:=h.inv.le;have b:=h.most;rw[List.length_map]at a;omega
def Av.low{ps:List PKV}(h:Av w g B m v ps):∀j,j<B->¬CO g v j:=fun j b a=>by
 rcases a with rfl|a
 ·have:=h.lo;omega
 ·have:=(World.ownsRow.lt h.own j a).1;omega
def Av.words{ps:List PKV}(h:Av w g B m v ps):∀j a,w.heap[j]? =ι (.cells a 265 (0,0))->¬CO g v j:=fun j a b c=>by
 rcases c with rfl|c
 ·exact h.blk.ne b (by decide) rfl
 ·obtain⟨d,e⟩:=h.own.blk c
  rw[e]at b;simp only[Option.some.injEq,Obj.cells.injEq]at b;exact absurd b.2.1 (by decide)
def Av.tu{ps:List PKV}(h:Av w g B m v ps)(ht:Tu F w w')(b:∀j,CO g v j->¬F j)(d:∀j a,w.heap[j]? =ι (.cells a 265 (0,0))->¬F j):Av w' g B m v ps:=
 ⟨h.blk.tu ht (b g (.inl rfl)),h.lo,h.own.tu ht (fun j c=>b j (.inr c)),h.rows.tu ht d,h.inv,h.most⟩
def Av.at{ps:List PKV}(h:Av w g B m v ps):∃a c,v=ε a ps.length c/\PksAt w a ps.length ps/\ps.length<=c/\c<=9223372036854775807:=h.own.pks h.rows.ks
def Av.cells{ps:List PKV}(h:Av w g B m v ps)(a:ς w.heap.size w w'):w'.cell? ⟨g,0,ζ⟩=ι (.int U (m:Int))/\w'.cell? ⟨g,1,ζ⟩=ι v:=
 ⟨(h.blk.below a).at 0 rfl,(h.blk.below a).at 1 rfl⟩
def Cq(w:θ)(v v':ν):Prop:=v'.ownBlock=v.ownBlock\/∀j,v'.ownBlock=ι j->w.heap.size<=j
def Cq.refl(w:θ)(v:ν):Cq w v v:=.inl rfl
def Cq.at{v':ν}(h:Cq w v v')(g j:Nat)(b:j<w.heap.size)(a:CO g v' j):CO g v j:=by
 rcases a with rfl|a
 ·exact .inl rfl
 ·rcases h with e|e
  ·exact .inr (e▸a)
  ·have:=e j a;omega
def Cq.trans{a:ν}(h:Cq w v v1)(k:Cq w1 v1 a)(c:w.heap.size<=w1.heap.size):Cq w v a:=by
 rcases k with e|e
 ·unfold Cq;rw[e];exact h
 ·exact .inr fun j b=>ψ c (e j b)
def Cq.new(h:Cq w1 v v1)(a:w.heap.size<=w1.heap.size):Cq w v v1:=(Cq.refl w v).trans h a
def nl{w2:θ}(h:Tu (CO g v) w w1)(k:Tu (CO g v1) w1 w2)(c:Cq w v v1):Tu (CO g v) w w2:=h.trans k fun j b a=>c.at g j b a
def Av.puts{ps b:List PKV}(h:Av w g B m v ps)(ht:Tu (fun j=>v.ownBlock=ι j) w w1)(d:OwnP w1 B v1 b)(o:Aq w1 B b)(k:Be m (b.map PKV.pd))(p:Cq w v v1):
  Av (w1.setCell ⟨g,1,ζ⟩ v1) g B m v1 b/\Tu (CO g v) w (w1.setCell ⟨g,1,ζ⟩ v1):=by
 have c:BkA 237 w1 g [.int U (m:Int),v]:=h.blk.tu ht fun e=>h.blk.neP h.own (by decide) e;have a:=A8 w1 g 1 v1;refine⟨⟨c.set 1 v1,h.lo,d.tu a fun j l e=>c.neP d (by decide) (by rw[l,e]),o.tu a fun j f i e=>c.ne i (by decide) e.symm,k,h.most⟩,?_⟩;exact((Tu.refl (CO g v) w).trans ht (fun _ _ e=>.inr e)).trans a (fun _ _ e=>.inl e)
def Z0(w:θ)(m:Nat)(a:m<=256):Av (w.alloc (ξ #[.int U (m:Int),ε none 0 0] 237)) w.heap.size w.heap.size m (ε none 0 0) []:=
 ⟨AI 237 w [.int U (m:Int),ε none 0 0],η _,OwnP.nil _ _,Aq.nil _ _,Be.nil _,a⟩
def zK:PKV:=⟨0,0,0,0,0,⟨ζ,0,0,[],⟨#[]⟩⟩⟩
def D6(n:Nat)(us:List PKV):List PKV:=us++υ (n-us.length) zK
def gY(n:Nat):D6 n []=υ n zK:=by simp[D6]
def eQ{us:List PKV}(h:us.length<=n):(D6 n us).length=n:=by simp[D6];omega
def mB{us:List PKV}(h:us.length=n):D6 n us=us:=by simp[D6,h]
def gX{us:List PKV}(r:PKV)(h:us.length<n):(D6 n us).set us.length r=D6 n (us++[r]):=by
 unfold D6;rw[Α _ _ (η _),Nat.sub_self,τ,ω,List.append_assoc,show n-us.length=(n-(us.length+1))+1 by omega,List.replicate_succ,List.set_cons_zero];rfl
def SF:∀(ps:List PKV) (k:Nat) (p:PKV),(((((((cellsK ps).set (k*7) (.int U p.o)).set (k*7+1) (.int U p.l)).set (k*7+2) (.int U p.k)).set (k*7+3) (.int U p.z)).set (k*7+4) (.int U p.h)).set (k*7+5) (.slice p.r.a p.r.n p.r.c)).set (k*7+6) (δ p.r.s)=cellsK (ps.set k p)
 |[],k,p=>by simp[cellsK]
 |x::ps,0,p=>by simp[cellsK,PKV.cells]
 |x::ps,k+1,p=>by
  have h:=SF ps k p
  have e:∀(l:List ν) (j:Nat) (u:ν),(x.cells++l).set (7+j) u=x.cells++l.set j u:=fun l j u=>by
   rw[Α _ _ (by show 7<=_;omega)];show _++l.set (7+j-7) u=_;rw[Nat.add_sub_cancel_left]
  show(((((((x.cells++cellsK ps).set ((k+1)*7) _).set ((k+1)*7+1) _).set ((k+1)*7+2) _).set ((k+1)*7+3) _).set ((k+1)*7+4) _).set ((k+1)*7+5) _).set ((k+1)*7+6) _=x.cells++cellsK (ps.set k p);rw[show(k+1)*7=7+k*7 by omega,ρ,ρ,ρ,ρ,ρ,ρ,e,e,e,e,e,e,e,h]
def RS:∀n:Nat,(madeCells #[.int U 0,.int U 0,.int U 0,.int U 0,.int U 0,ε none 0 0,δ ⟨#[]⟩] (n*7)).toList=cellsK (υ n zK)
 |0=>by simp[madeCells,cellsK]
 |n+1=>by
  rw[List.replicate_succ',Kl,<-RS n];unfold madeCells;rw[show(n+1)*7=n*7+1+1+1+1+1+1+1 by omega];simp only[Array.toList_map,Array.toList_range];rw[κ,κ,κ,κ,κ,κ,κ];simp[cellsK,PKV.cells,zK,Nat.mul_mod_left]
def ZW(n:Nat)(f:n<=1048576)(wx:θ):(Instr.makeSlice 69 (.int U (n:Int)) (.int U (n:Int))).run ο wx=.ok (ε (ι ⟨wx.heap.size,0,ζ⟩) n n) (wx.alloc (ξ (madeCells #[.int U 0,.int U 0,.int U 0,.int U 0,.int U 0,ε none 0 0,δ ⟨#[]⟩] (n*7)) 75)):=by
 obtain⟨e,a,b,d,c⟩:=info_parts Ma;have:=run_make (P:=ο) wx 69 75 e _ underlying69 a b U U (n:Int) (n:Int) (by omega) (Int.le_refl _) (by rw[c];omega) (by omega);rw[d]at this;simpa [Value.cells]using this
def ZU(w:θ)(n:Nat)(b:n<=1048576)(ps:List PKV)(a:ps=υ n zK):OwnP (w.alloc (ξ (madeCells #[.int U 0,.int U 0,.int U 0,.int U 0,.int U 0,ε none 0 0,δ ⟨#[]⟩] (n*7)) 75)) w.heap.size (ε (ι ⟨w.heap.size,0,ζ⟩) n n) ps:=by
 subst a;refine⟨Im _,.inr ⟨w.heap.size,n,madeCells #[.int U 0,.int U 0,.int U 0,.int U 0,.int U 0,ε none 0 0,δ ⟨#[]⟩] (n*7),by simp,η _,heap_alloc_new w _,by simp,by unfold maxLen;omega,by simp[size_madeCells],?_⟩⟩;rw[RS,List.take_of_length_le (by rw[Im];exact η _)]
def setK(w:θ)(g off:Nat)(p:PKV):θ:=((((((w.setCell ⟨g,off,ζ⟩ (.int U p.o)).setCell ⟨g,off+1,ζ⟩ (.int U p.l)).setCell ⟨g,off+2,ζ⟩ (.int U p.k)).setCell ⟨g,off+3,ζ⟩ (.int U p.z)).setCell ⟨g,off+4,ζ⟩ (.int U p.h)).setCell ⟨g,off+5,ζ⟩ (.slice p.r.a p.r.n p.r.c)).setCell ⟨g,off+6,ζ⟩ (δ p.r.s)
def OwnP.stored{cap:Nat}{ps:List PKV}(h:OwnP w B (ε (ι ⟨g,0,ζ⟩) n cap) ps)(k:Nat)(p:PKV):OwnP (setK w g (k*7) p) B (ε (ι ⟨g,0,ζ⟩) n cap) (ps.set k p):=by
 obtain rfl:n=ps.length:=by
  rcases h.2 with⟨e,_⟩|⟨i,b,d,e,_⟩
  ·cases e
  ·simp only[Value.slice.injEq]at e;exact e.2.1
 have f:w.ownsRow B 75 7 (ε (ι ⟨g,0,ζ⟩) ps.length cap) ps.length (cellsK ps):=h;have:=((((((((f.stored (k*7) (.int U p.o)).1.stored (k*7+1) (.int U p.l)).1.stored (k*7+2) (.int U p.k)).1.stored (k*7+3) (.int U p.z)).1.stored (k*7+4) (.int U p.h)).1.stored (k*7+5) (.slice p.r.a p.r.n p.r.c)).1.stored (k*7+6) (δ p.r.s))).1;rw[SF]at this;show World.ownsRow _ B 75 7 _ (ps.set k p).length _;rw[List.length_set];exact this
def aU{a:θ}(h:ς B a w){g:Nat}(b:B<=g)(off:Nat)(p:PKV):ς B a (setK w g off p):=
 ((((((h.setCell (p:=⟨g,off,ζ⟩) b _).setCell (p:=⟨g,off+1,ζ⟩) b _).setCell (p:=⟨g,off+2,ζ⟩) b _).setCell (p:=⟨g,off+3,ζ⟩) b _).setCell (p:=⟨g,off+4,ζ⟩) b _).setCell (p:=⟨g,off+5,ζ⟩) b _).setCell (p:=⟨g,off+6,ζ⟩) b _
def Aq.set{ps:List PKV}(h:Aq w B ps)(i:Nat)(u:ν)(a:g<B):Aq (w.setCell ⟨g,i,ζ⟩ u) B ps:=fun r b=>(h r b).other i u a
def Aq.setK{ps:List PKV}(h:Aq w B ps)(off:Nat)(p:PKV)(a:g<B):Aq (setK w g off p) B ps:=
 ((((((h.set off _ a).set (off+1) _ a).set (off+2) _ a).set (off+3) _ a).set (off+4) _ a).set (off+5) _ a).set (off+6) _ a
def oD(w:θ)(g off:Nat)(p:PKV):(setK w g off p).heap.size=w.heap.size:=by unfold setK;simp
def lH(n:Int)(w:θ):
  Calls ο 103 #[.int U n] w fun e w'=>e=.returned (.pointer (ι ⟨w.heap.size,0,ζ⟩))/\Av w' w.heap.size w.heap.size (capN n) (ε none 0 0) []/\ς w.heap.size w w':=by
 have a:=MV n;have b:=MI n;go_enter func103,ntmps103;go_wp2;go_ret;exact⟨rfl,Z0 w (capN n) (JS n),(μ _ _).alloc (η _) _⟩
def lG(g B m:Nat)(v:ν)(ps:List PKV)(w:θ)(h:Av w g B m v ps):
  Calls ο 342 #[.pointer (ι ⟨g,0,ζ⟩)] w fun e w'=>e=.returned (.int U (ps.length:Int))/\w'=w:=by
 obtain⟨a,c,rfl, -, -, -⟩:=h.at;obtain⟨b,d⟩:=h.cells (μ _ _);clear h;go_enter func342,ntmps342;go_wp2;go_ret;exact⟨rfl,rfl⟩
def VA(p:PKV)(w:θ):
  Calls ο 352 #[p.val] w fun e w'=>e=.returned (.agg #[.int U p.o,.int U p.l,.int U p.k,.int U p.z])/\ς w.heap.size w w':=by
 unfold PKV.val;go_enter func352,ntmps352;go_wp2;exact bodyPost_ret (v:=.agg #[.int U p.o,.int U p.l,.int U p.k,.int U p.z]) (by simp[results,Tryz.results352,go_sem]) rfl ⟨rfl,((μ _ _).alloc (η _) _).alloc (by simp) _⟩
def YI(o l k z h f e i:Int)(W:θ):
  (binOp .eql 423 (.agg #[.int U o,.int U l,.int U k,.int U z]) (.agg #[.int U h,.int U f,.int U e,.int U i])).run ο W=.ok (.bool (decide (o=h/\l=f/\k=e/\z=i))) W:=by
 rw[run_eql_struct,run_equalIn_struct (d:=9999) (ht:=by kernel_rfl) (hp:=by kernel_rfl)];simp only[Program.fieldsOf,underlying423];by_cases a:o=h
 ·by_cases b:l=f
  ·by_cases c:k=e
   ·by_cases j:z=i
    ·simp[Op.eqFields,BL,go_sem,underlying3,a,b,c,j]
    ·simp[Op.eqFields,BL,go_sem,underlying3,a,b,c,j]
   ·simp[Op.eqFields,BL,go_sem,underlying3,a,b,c]
  ·simp[Op.eqFields,BL,go_sem,underlying3,a,b]
 ·simp[Op.eqFields,BL,go_sem,underlying3,a]
def Own.setB7{xs:List Nat}(h:Own w B v xs)(a:g<B)(u0 u1 u2 u3 u4 u5 u6:ν):Own (set7 w g u0 u1 u2 u3 u4 u5 u6) B v xs:=
 ((((((h.other 0 u0 a).other 1 u1 a).other 2 u2 a).other 3 u3 a).other 4 u4 a).other 5 u5 a).other 6 u6 a
def T7{wx:θ}{tmps:Array ν}{b:Nat}{o l k z h:Int}{v5 u5:ν}{s:ByteArray}{z0 r u z3 z4 z5 x:ν}(ht:tmps.getD 2 undef=.pointer (ι ⟨b+1,0,ζ⟩))(e:AS wx (b+1) z0 r u z3 z4 z5 x):
  (results Tryz.f344 tmps).run ο (set7 ((wx.setCell ⟨b,5,ζ⟩ v5).setCell ⟨b,6,ζ⟩ (δ s)) (b+1) (.int U o) (.int U l) (.int U k) (.int U z) (.int U h) u5 (δ s))=
   .ok (.agg #[.int U o,.int U l,.int U k,.int U z,.int U h,u5,δ s]) (set7 ((wx.setCell ⟨b,5,ζ⟩ v5).setCell ⟨b,6,ζ⟩ (δ s)) (b+1) (.int U o) (.int U l) (.int U k) (.int U z) (.int U h) u5 (δ s)):=by
 have d:=((e.other (a:=⟨b,5,ζ⟩) (Nat.succ_ne_self b) v5).other (a:=⟨b,6,ζ⟩) (Nat.succ_ne_self b) (δ s)).sets (.int U o) (.int U l) (.int U k) (.int U z) (.int U h) u5 (δ s);obtain⟨f,r1,r2,i,j,p,q⟩:=d.at;have c:tmps[2]?.getD undef=.pointer (ι ⟨b+1,0,ζ⟩):=by simpa using ht
 generalize set7 ((wx.setCell ⟨b,5,ζ⟩ v5).setCell ⟨b,6,ζ⟩ (δ s)) (b+1) (.int U o) (.int U l) (.int U k) (.int U z) (.int U h) u5 (δ s)=X at*;simp[results,Tryz.results344,go_sem,c,f,r1,r2,i,j,p,q]
def TZ{wx:θ}{a:Option Addr}{c2:Nat}{xs:List Nat}{o l k z h:Int}{s:ByteArray}(c:Own wx (w.heap.size+2) (ε a n c2) xs)(b:ς w.heap.size w wx):
  Own (set7 ((wx.setCell ⟨w.heap.size,5,ζ⟩ (ε a n c2)).setCell ⟨w.heap.size,6,ζ⟩ (δ s)) (w.heap.size+1) (.int U o) (.int U l) (.int U k) (.int U z) (.int U h) (ε a n c2) (δ s)) w.heap.size (ε a n c2) xs/\
   ς w.heap.size w (set7 ((wx.setCell ⟨w.heap.size,5,ζ⟩ (ε a n c2)).setCell ⟨w.heap.size,6,ζ⟩ (δ s)) (w.heap.size+1) (.int U o) (.int U l) (.int U k) (.int U z) (.int U h) (ε a n c2) (δ s)):=
 ⟨(((c.other 5 _ (by omega)).other 6 _ (by omega)).setB7 (by omega) _ _ _ _ _ _ _).mono (Nat.le_add_right _ _),Cv ((b.setCell (p:=⟨w.heap.size,5,ζ⟩) (η _) _).setCell (p:=⟨w.heap.size,6,ζ⟩) (η _) _) (Nat.le_succ _) _ _ _ _ _ _ _⟩
def OO(p:PKV)(w:θ)(h:RowAt w p.r.a p.r.n p.r.xs)(S:p.r.n<=1048576)(O:p.r.s.size<=1048576):
  Calls ο 344 #[p.val] w fun e w'=> ∃C c2,e=.returned (PKV.val ⟨p.o,p.l,p.k,p.z,p.h,⟨C,p.r.n,c2,p.r.xs,p.r.s⟩⟩)/\Own w' w.heap.size (ε C p.r.n c2) p.r.xs/\ς w.heap.size w w':=by
 obtain⟨o,l,k,z,hp,a,n,c,xs,s⟩:=p;unfold PKV.val;dsimp only at h S O⊢;have x:=(CC w (.int U o) (.int U l) (.int U k) (.int U z) (.int U hp) (ε a n c) (δ s)).below ((μ _ _).alloc (η _) (ξ #[.int U 0,.int U 0,.int U 0,.int U 0,.int U 0,ε none 0 0,δ ⟨#[]⟩] 75));have y:=CC (w.alloc (ξ #[.int U o,.int U l,.int U k,.int U z,.int U hp,ε a n c,δ s] 75)) (.int U 0) (.int U 0) (.int U 0) (.int U 0) (.int U 0) (ε none 0 0) (δ ⟨#[]⟩);rw[A7]at y;have q:ς w.heap.size w ((w.alloc (ξ #[.int U o,.int U l,.int U k,.int U z,.int U hp,ε a n c,δ s] 75)).alloc (ξ #[.int U 0,.int U 0,.int U 0,.int U 0,.int U 0,ε none 0 0,δ ⟨#[]⟩] 75)):=GW (μ _ w) (μ _ _);have H:((w.alloc (ξ #[.int U o,.int U l,.int U k,.int U z,.int U hp,ε a n c,δ s] 75)).alloc (ξ #[.int U 0,.int U 0,.int U 0,.int U 0,.int U 0,ε none 0 0,δ ⟨#[]⟩] 75)).heap.size=w.heap.size+2:=by rw[A7,A7]
 have N:=h.below q;have E:=h.1;generalize hW:(w.alloc (ξ #[.int U o,.int U l,.int U k,.int U z,.int U hp,ε a n c,δ s] 75)).alloc (ξ #[.int U 0,.int U 0,.int U 0,.int U 0,.int U 0,ε none 0 0,δ ⟨#[]⟩] 75)=W at*;have J:=Ab (fun wx (I:ς W.heap.size W wx)=>Hj a n c xs wx (N.below I) (by omega));have K:=Ab (fun wx=>GR s wx O);have b:=Ab (fun wx (I:ς W.heap.size W wx)=>show _/\_ from⟨x.below I,y.below I⟩);have A:=Ab q;have P:=Ab E;have Q:=Ab H;obtain⟨-, -, -, -, -,c5,c6⟩:=x.at;clear h N x y q E H;go_enter func344,ntmps344;go_wp2_with fail
 go_region_law (first
  |(go_simp;go_at_call 253;refine(Aa J _ (by first|exact Aa d|exact(μ _ _).drew)).mono ?_;rintro e w1 ⟨v1,rfl,i,D⟩;obtain⟨C,c2,rfl, -⟩:=i.row;have j:=Ab (show ς W.heap.size W w1 from Ad (by first|exact Aa d|exact(μ _ _).drew) D);rw[Aa P]at i⊢;have f:=Ab (i.mono (B':=w.heap.size+2) (by rw[<-Aa Q];first|exact(Aa d).size|exact η _));obtain⟨⟨T,V,X,Y,Z,q5,q6⟩,⟨y0,y1,y2,y3,y4,y5,y6⟩⟩:=And.intro (Aa b w1 (Aa j)).1.at (Aa b w1 (Aa j)).2.at;have f5:=(Aa b w1 (Aa j)).1.frz 5;have f6:=(Aa b w1 (Aa j)).1.frz 6;have R:=(Aa b w1 (Aa j)).2.frz;clear i D)
  |(go_simp;go_at_call 33;refine(Aa K _).mono ?_;rintro e w2 ⟨rfl,u⟩;have d:=Ab (show ς W.heap.size W w2 from Ad (by first|exact Aa j|exact(μ _ _).drew) u);(first|(have f:=Ab ((Aa f).below u))|skip);obtain⟨⟨T,V,X,Y,Z,q5,q6⟩,⟨y0,y1,y2,y3,y4,y5,y6⟩⟩:=And.intro (Aa b w2 (Aa d)).1.at (Aa b w2 (Aa d)).2.at;have f5:=(Aa b w2 (Aa d)).1.frz 5;have f6:=(Aa b w2 (Aa d)).1.frz 6;have R:=(Aa b w2 (Aa d)).2.frz;clear u)
  |fail)
 all_goals go_wp2
 all_goals first
  |exact bodyPost_ret (T7 (wx:=w2) rfl (Aa b w2 (Aa d)).2) rfl ⟨C,c2,rfl,TZ (Aa f) (Ad (Aa A) (Aa d))⟩
  |exact bodyPost_ret (T7 (wx:=w1) rfl (Aa b w1 (Aa j)).2) rfl ⟨C,c2,rfl,TZ (Aa f) (Ad (Aa A) (Aa j))⟩
end Go.Proofs.YtfpmnekaockodaaGreatDoor
