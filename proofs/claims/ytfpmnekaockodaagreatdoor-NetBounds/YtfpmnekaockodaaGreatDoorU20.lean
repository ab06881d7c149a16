/- Laws for the proof. -/
import Derived.Test.YtfpmnekaockodaaGreatDoorU19
namespace Go.Proofs.YtfpmnekaockodaaGreatDoor
open Go.RowKit Go.Sort
set_option linter.all false
set_option maxRecDepth 4000
set_option maxHeartbeats 8000000
variable {L:List PD}{B g n m B':Nat}{F:Nat->Prop}{v v1:Value}{w w' w1:World}
theorem Mb:(Tryz.prog.info? 75).map (fun i=>(i.zero,i.size,i.bytes))=some (some (.agg #[.int .i64 0,.int .i64 0,.int .i64 0,.int .i64 0,.int .i64 0,.slice none 0 0,.string ⟨#[]⟩]),7,80):=by kernel_rfl
def PKV.cells(p:PKV):List Value:=[.int .i64 p.o,.int .i64 p.l,.int .i64 p.k,.int .i64 p.z,.int .i64 p.h,.slice p.r.a p.r.n p.r.c,.string p.r.s]
def cellsK(ps:List PKV):List Value:=ps.flatMap PKV.cells
theorem Ik:∀ps:List PKV,(cellsK ps).length=ps.length*7
 |[]=>rfl
 |p::ps=>by
  show(p.cells++cellsK ps).length=_;rw[List.length_append,Ik ps,List.length_cons,Nat.add_mul,Nat.one_mul,Nat.add_comm];rfl
theorem Kg(a b:List PKV):cellsK (a++b)=cellsK a++cellsK b:=List.flatMap_append
theorem Oj:∀(ps:List PKV) (i j:Nat),i<ps.length->j<7->(cellsK ps)[i*7+j]? =(ps.getD i .dflt).cells[j]?
 |[],i,j,h,_=>by simp at h
 |p::ps,0,j,_,a=>by
  show(p.cells++cellsK ps)[0*7+j]? =_;rw[Nat.zero_mul,Nat.zero_add,List.getElem?_append_left (by show j<7;exact a)];rfl
 |p::ps,i+1,j,h,a=>by
  have:=Oj ps i j (by simpa using h) a;show(p.cells++cellsK ps)[(i+1)*7+j]? =_;rw[List.getElem?_append_right (by show 7<=_;omega),show(i+1)*7+j-p.cells.length=i*7+j from by show(i+1)*7+j-7=_;omega,this];rfl
theorem LS(p:PKV):∀u∈p.cells,u.oneCell'=true:=fun u a=>by
 unfold PKV.cells at a;simp only[List.mem_cons,List.not_mem_nil,or_false]at a;rcases a with h|h|h|h|h|h|h<;>(rw[h];rfl)
theorem gY(ps:List PKV):∀u∈cellsK ps,u.oneCell'=true:=fun u a=>by
 obtain⟨p,_,hp⟩:=List.mem_flatMap.1 a;exact LS p u hp
def KsIn(w:World)(ps:List PKV):Prop:=∀p∈ps,RowAt w p.r.a p.r.n p.r.xs/\p.r.n<=p.r.c
theorem KsIn.below{ps:List PKV}(h:KsIn w ps)(a:Below w.heap.size w w'):KsIn w' ps:=fun p hp=>⟨(h p hp).1.below a,(h p hp).2⟩
theorem KsIn.nil(w:World):KsIn w []:=fun p hp=>by cases hp
theorem KsIn.append{a b:List PKV}(h:KsIn w a)(k:KsIn w b):KsIn w (a++b):=fun p hp=>(List.mem_append.1 hp).elim (h p) (k p)
theorem KsIn.one{p:PKV}(h:RowAt w p.r.a p.r.n p.r.xs)(b:p.r.n<=p.r.c):KsIn w [p]:=fun x d=>by rw[List.mem_singleton.1 d];exact⟨h,b⟩
theorem KsIn.get{ps:List PKV}(h:KsIn w ps){i:Nat}(b:i<ps.length):RowAt w (ps.getD i .dflt).r.a (ps.getD i .dflt).r.n (ps.getD i .dflt).r.xs/\(ps.getD i .dflt).r.n<=(ps.getD i .dflt).r.c:=by
 have:=h ps[i] (List.getElem_mem b);rwa[List.getD_eq_getElem?_getD,List.getElem?_eq_getElem b]
theorem KsIn.sub{a b:List PKV}(h:KsIn w b)(c:∀p∈a,p∈b):KsIn w a:=fun p hp=>h p (c p hp)
def OwnP(w:World)(B:Nat)(v:Value)(ps:List PKV):Prop:=w.ownsRow B 75 7 v ps.length (cellsK ps)
theorem OwnP.nil(w:World)(B:Nat):OwnP w B (.slice none 0 0) []:=World.ownsRow_nil _ _ _ _
theorem OwnP.cellAt{c:Nat}{ps:List PKV}(h:OwnP w B (.slice (some ⟨g,0,none⟩) n c) ps){j:Nat}{u:Value}(a:(cellsK ps)[j]? =some u):w.cell? ⟨g,j,none⟩=some u:=by
 have:=World.ownsRow.cells h (g:=g) rfl j u a;rwa[show(⟨g,0,none⟩:Addr).add j=⟨g,j,none⟩ by unfold Addr.add;split<;>simp_all]at this
theorem OwnP.pks{ps:List PKV}(h:OwnP w B v ps)(q:KsIn w ps):∃a c,v=.slice a ps.length c/\PksAt w a ps.length ps/\ps.length<=c/\c<=9223372036854775807:=by
 have k:=h;rcases h.2 with⟨rfl,e⟩|⟨g,cap,f,rfl,x,y,p,o,r,ht⟩
 ·exact⟨none,0,by rw[e],⟨rfl,fun i d=>by omega,.inl e⟩,by omega,by omega⟩
 ·refine⟨_,cap,rfl,⟨rfl,fun i d=>(q.get d).1,.inr ⟨g,0,rfl,fun i d=>?_⟩⟩,p,by simpa [maxLen]using o⟩
  have b:∀j,j<7->∀u,(ps.getD i .dflt).cells[j]? =some u->w.cell? ⟨g,i*7+j,none⟩=some u:=fun j l u s=>k.cellAt (by rw[Oj ps i j d l];exact s);rw[Nat.zero_add];exact⟨b 0 (by decide) _ rfl,b 1 (by decide) _ rfl,b 2 (by decide) _ rfl,b 3 (by decide) _ rfl,b 4 (by decide) _ rfl,b 5 (by decide) _ rfl,b 6 (by decide) _ rfl⟩
theorem OwnP.shape{ps:List PKV}(h:OwnP w B v ps):∃a c,v=.slice a ps.length c:=by
 rcases h.2 with⟨rfl,d⟩|⟨g,cap,b,rfl,_⟩
 ·exact⟨none,0,by rw[d]⟩
 ·exact⟨_,cap,rfl⟩
theorem OwnP.at'{a:Option Addr}{c:Nat}{ps:List PKV}(h:OwnP w B (.slice a m c) ps)(i:KsIn w ps):PksAt w a m ps/\m=ps.length/\m<=c/\c<=9223372036854775807:=by
 obtain⟨j,k,e,b,d,f⟩:=h.pks i;simp only[Value.slice.injEq]at e;obtain⟨rfl,rfl,rfl⟩:=e;exact⟨b,rfl,d,f⟩
theorem OwnP.mono{ps:List PKV}(h:OwnP w B v ps)(d:B'<=B):OwnP w B' v ps:=by
 refine⟨h.1,?_⟩;rcases h.2 with b|⟨g,cap,a,c,e,r⟩
 ·exact .inl b
 ·exact .inr ⟨g,cap,a,c,Nat.le_trans d e,r⟩
theorem OwnP.below{ps:List PKV}(h:OwnP w B v ps)(e:Below w.heap.size w w'):OwnP w' B v ps:=by
 refine⟨h.1,?_⟩;rcases h.2 with c|⟨g,cap,b,d,f,a,r⟩
 ·exact .inl c
 ·exact .inr ⟨g,cap,b,d,f,(e.block g (Array.getElem?_eq_some_iff.1 a).1).trans a,r⟩
theorem OwnP.tu{ps:List PKV}(h:OwnP w B v ps)(ht:Tu F w w')(e:∀j,v.ownBlock=some j->¬F j):OwnP w' B v ps:=by
 refine⟨h.1,?_⟩;rcases h.2 with d|⟨g,cap,b,c,f,a,r⟩
 ·exact .inl d
 ·exact .inr ⟨g,cap,b,c,f,(ht.block g (Array.getElem?_eq_some_iff.1 a).1 (e g (by rw[c];rfl))).trans a,r⟩
theorem OwnP.blk{ps:List PKV}(h:OwnP w B v ps)(b:v.ownBlock=some g):∃a,w.heap[g]? =some (.cells a 75 (0,0)):=by
 rcases h.2 with⟨rfl,_⟩|⟨g',cap,a,rfl,_,c,_⟩
 ·cases b
 ·simp only[Value.ownBlock,Option.some.injEq]at b
  exact⟨a,b▸c⟩
theorem BkA.neP{T:TypeId}{cs:List Value}{ps:List PKV}(h:BkA T w g cs)(d:OwnP w B v ps)(b:T≠75):v.ownBlock≠some g:=fun e=>by
 obtain⟨a,c⟩:=d.blk e;exact h.ne c b rfl
theorem N1{ops:Array Oper}{rest:List Oper}{o:Oper}{act:Act}{Q:Exit->Act->World->Prop}(f:o.guard=none)(s x:Operand)
  (I:o.op=.call {callee:=.builtin .append,args:=#[s,x],argTypes:=#[69,69]}) (B:Nat) (v:Value) (ps:List PKV) (p:PKV)
  (J:act.eval s=v) (K:act.eval x=.slice (some ⟨w.heap.size,0,none⟩) 1 1) (h:OwnP w B v ps) (D:B<=w.heap.size) (O:ps.length<=1000000)
  (E:∀g cap w',OwnP w' B (.slice (some ⟨g,0,none⟩) (ps.length+1) cap) (ps++[p])->w.grownBy w' v.ownBlock->(v.ownBlock=some g\/w.heap.size<=g)->wpList Tryz.prog ops Q rest (act.put o.dst (.slice (some ⟨g,0,none⟩) (ps.length+1) cap)) w'):
  wpList Tryz.prog ops Q (o::rest) act (w.alloc (.cells #[.int .i64 p.o,.int .i64 p.l,.int .i64 p.k,.int .i64 p.z,.int .i64 p.h,.slice p.r.a p.r.n p.r.c,.string p.r.s] 75)):=by
 obtain⟨N,H,i,j,q⟩:=info_parts Mb;have b:Below w.heap.size w (w.alloc (.cells #[.int .i64 p.o,.int .i64 p.l,.int .i64 p.k,.int .i64 p.z,.int .i64 p.h,.slice p.r.a p.r.n p.r.c,.string p.r.s] 75)):=(Below.refl _ _).alloc (Nat.le_refl _) _;have u:(w.alloc (.cells #[.int .i64 p.o,.int .i64 p.l,.int .i64 p.k,.int .i64 p.z,.int .i64 p.h,.slice p.r.a p.r.n p.r.c,.string p.r.s] 75)).ownsRow B 75 7 v ps.length (cellsK ps):=h.below b;have d:(w.alloc (.cells #[.int .i64 p.o,.int .i64 p.l,.int .i64 p.k,.int .i64 p.z,.int .i64 p.h,.slice p.r.a p.r.n p.r.c,.string p.r.s] 75)).heap[w.heap.size]? =some (.cells #[.int .i64 p.o,.int .i64 p.l,.int .i64 p.k,.int .i64 p.z,.int .i64 p.h,.slice p.r.a p.r.n p.r.c,.string p.r.s] 75 (0,0)):=AN 75 w p.cells
 refine wpList_append_lies _ f s x 69 I B 75 N _ 7 80 Tryz.underlying69 H i j q rfl (by decide) v ps.length (cellsK ps) J u ⟨w.heap.size,0,none⟩ 1 1 p.cells K rfl
  (World.news_of_block d) (LS p) (by decide) (by unfold maxLen;omega) (by omega) (Nat.le_trans D b.size) _ rfl (fun g cap w' y A C _=>E g cap w' ?_ (BD (CN b _) A (.inl rfl)) (C.imp id fun e=>by rw[e];exact b.size))
 show w'.ownsRow B 75 7 _ (ps++[p]).length (cellsK (ps++[p]));rw[List.length_append,Kg,show cellsK [p]=p.cells from List.append_nil _];exact y
def alkH:List PD->PD->Bool
 |[],_=>true
 |q::_,p=>Bx q p
def DD(m:Nat)(L:List PD)(p:PD):Bool:=decide (0<m)&&BT p&&alkH L p&&Fu (vecsD L) p.xs
def degD(L:List PD)(i:Nat):Nat:=cnt (L.getD i .dflt).xs
def goesTo(L:List PD):Nat->Nat
 |0=>0
 |i+1=>if degD L (goesTo L i)<degD L i then i else goesTo L i
theorem Se(L:List PD)(i:Nat):goesTo L (i+1)=if degD L (goesTo L i)<degD L i then i else goesTo L i:=rfl
theorem LO(L:List PD):∀n,0<n->goesTo L n<n/\(∀j,j<n->degD L j<=degD L (goesTo L n))/\∀j,j<goesTo L n->degD L j<degD L (goesTo L n)
 |0,h=>by omega
 |1,_=>by
  have h:goesTo L 1=0:=by rw[Se];exact if_neg (Nat.lt_irrefl _)
  rw[h];exact⟨by omega,fun j a=>by rw[show j=0 by omega];exact Nat.le_refl _,fun j a=>by omega⟩
 |n+2,_=>by
  obtain⟨d,b,c⟩:=LO L (n+1) (by omega);rw[Se L (n+1)];by_cases h:degD L (goesTo L (n+1))<degD L (n+1)
  ·rw[if_pos h]
   refine⟨by omega,fun j a=>?_,fun j a=>Nat.lt_of_le_of_lt (b j a) h⟩;rcases Nat.lt_or_ge j (n+1)with e|e
   ·exact Nat.le_of_lt (Nat.lt_of_le_of_lt (b j e) h)
   ·rw[show j=n+1 by omega];exact Nat.le_refl _
  ·rw[if_neg h]
   refine⟨by omega,fun j a=>?_,c⟩;rcases Nat.lt_or_ge j (n+1)with e|e
   ·exact b j e
   ·rw[show j=n+1 by omega];omega
theorem Sf(c:g<n)(a:∀j,j<n->degD L j<=degD L g)(b:∀j,j<g->degD L j<degD L g):goesTo L n=g:=by
 obtain⟨d,f,h⟩:=LO L n (by omega);have i:=a _ d;have k:=f g c;rcases Nat.lt_trichotomy (goesTo L n) g with e|e|e
 ·have:=b _ e;omega
 ·exact e
 ·have:=h _ e;omega
def leftD(m:Nat)(L:List PD):List PD:=if m<=L.length then L.eraseIdx (goesTo L L.length)else L
def Ij(m:Nat)(L:List PD)(p:PD):List PD:=if DD m L p=true then leftD m L++[p]else L
structure Bk(m:Nat)(L:List PD):Prop where
 le:L.length<=m
 ok:∀p∈L,BT p=true
 alk:∀p∈L,∀q∈L,Bx p q=true
 sm:∀p∈L,Ac p.xs
theorem Bk.nil(m:Nat):Bk m []:=⟨Nat.zero_le _,(fun _ h=>by cases h),(fun _ h=>by cases h),(fun _ h=>by cases h)⟩
theorem Bk.fit(h:Bk m L):AC 1048576 (vecsD L):=fun v a=>by
 obtain⟨p,hp,rfl⟩:=List.mem_map.1 a;exact⟨h.sm p hp,by have:=JX (h.ok p hp);omega⟩
theorem GN:∀p∈leftD m L,p∈L:=fun p hp=>by
 unfold leftD at hp;split at hp
 ·exact List.mem_of_mem_eraseIdx hp
 ·exact hp
theorem Vm(h:L.length<=m)(a:0<m):(leftD m L).length+1<=m/\(leftD m L).length<=L.length/\L.length<=(leftD m L).length+1:=by
 unfold leftD;by_cases e:m<=L.length
 ·rw[if_pos e,List.length_eraseIdx_of_lt (LO L L.length (by omega)).1]
  omega
 ·rw[if_neg e];omega
theorem To{p:PD}(h:DD m L p=true):0<m/\BT p=true/\alkH L p=true/\Fu (vecsD L) p.xs=true:=by
 unfold DD at h;rw[Bool.and_eq_true,Bool.and_eq_true,Bool.and_eq_true,decide_eq_true_eq]at h;exact⟨h.1.1.1,h.1.1.2,h.1.2,h.2⟩
theorem Bk.alkH(h:Bk m L){p:PD}(hp:alkH L p=true):∀q∈L,Bx q p=true:=fun q b=>by
 cases L with
 |nil=>cases b
 |cons a L=>exact Tz (h.alk q b a List.mem_cons_self) hp
theorem Bk.put(h:Bk m L){p:PD}(i:Ac p.xs):Bk m (Ij m L p):=by
 unfold Ij;by_cases ht:DD m L p=true
 ·rw[if_pos ht]
  obtain⟨e,f,d,_⟩:=To ht;have c:=h.alkH d;refine⟨by rw[List.length_append,List.length_singleton];exact(Vm h.le e).1,fun q a=>?_,fun q a r b=>?_,fun q a=>?_⟩
  ·rcases List.mem_append.1 a with a|a
   ·exact h.ok q (GN q a)
   ·rw[List.mem_singleton.1 a];exact f
  ·rcases List.mem_append.1 a with a|a<;>rcases List.mem_append.1 b with b|b
   ·exact h.alk q (GN q a) r (GN r b)
   ·rw[List.mem_singleton.1 b];exact c q (GN q a)
   ·rw[List.mem_singleton.1 a];exact UT (c r (GN r b))
   ·rw[List.mem_singleton.1 a,List.mem_singleton.1 b];exact O9 p
  ·rcases List.mem_append.1 a with a|a
   ·exact h.sm q (GN q a)
   ·rw[List.mem_singleton.1 a];exact i
 ·rw[if_neg ht];exact h
theorem Bk.get(h:Bk m L){i:Nat}(a:i<L.length):BT (L.getD i .dflt)=true/\Bx (L.getD 0 .dflt) (L.getD i .dflt)=true:=by
 have b:L.getD i .dflt∈L:=by rw[List.getD_eq_getElem?_getD,List.getElem?_eq_getElem a];exact List.getElem_mem a
 have c:L.getD 0 .dflt∈L:=by rw[List.getD_eq_getElem?_getD,List.getElem?_eq_getElem (show 0<L.length by omega)];exact List.getElem_mem _
 exact⟨h.ok _ b,h.alk _ c _ b⟩
theorem Bk.deg(h:Bk m L){i:Nat}(e:i<L.length):(degD L i:Int)<=(L.getD 0 .dflt).k/\(L.getD 0 .dflt).k<=128:=by
 obtain⟨b,a⟩:=h.get e;unfold Bx at a;rw[decide_eq_true_eq]at a;have c:=ZA b;have d:=(I5 b).2.2.2.2.1;unfold degD;rw[a.2.2.1];exact⟨c,d⟩
theorem Un{α β:Type}(f:α->β):∀(l:List α) (i:Nat),(l.eraseIdx i).map f=(l.map f).eraseIdx i
 |[],_=>rfl
 |a::l,0=>rfl
 |a::l,i+1=>by simp only[List.eraseIdx_cons_succ,List.map_cons];rw[Un f l i]
def Av(w:World)(B:Nat)(ps:List PKV):Prop:=∀p∈ps,Own w B (.slice p.r.a p.r.n p.r.c) p.r.xs
theorem Av.nil(w:World)(B:Nat):Av w B []:=fun r a=>by cases a
theorem Av.below{ps:List PKV}(h:Av w B ps)(a:Below w.heap.size w w'):Av w' B ps:=fun r b=>(h r b).below a
theorem Av.mono{ps:List PKV}(h:Av w B ps)(a:B'<=B):Av w B' ps:=fun r b=>(h r b).mono a
theorem Av.snoc{ps:List PKV}{p:PKV}(h:Av w B ps)(d:Own w B (.slice p.r.a p.r.n p.r.c) p.r.xs):Av w B (ps++[p]):=fun x b=>by
 rcases List.mem_append.1 b with b|b
 ·exact h x b
 ·rw[List.mem_singleton.1 b];exact d
theorem Av.sub{a b:List PKV}(h:Av w B b)(c:∀p∈a,p∈b):Av w B a:=fun p hp=>h p (c p hp)
theorem Av.ks{ps:List PKV}(h:Av w B ps):KsIn w ps:=fun r b=>by
 obtain⟨a,c,e,i⟩:=(h r b).row;simp only[Value.slice.injEq]at e;obtain⟨d,f,j⟩:=e;exact⟨by rw[d,f];exact i,(h r b).cap⟩
theorem Av.tu{ps:List PKV}(h:Av w B ps)(ht:Tu F w w')(c:∀j a,w.heap[j]? =some (.cells a 265 (0,0))->¬F j):Av w' B ps:=fun r b=>
 (h r b).tu ht fun j e=>by
  obtain⟨a,d⟩:=(h r b).blkU e;exact c j a d
def CG(g:Nat)(v:Value)(k:Nat):Prop:=k=g\/v.ownBlock=some k
structure Ay(w:World)(g B m:Nat)(v:Value)(ps:List PKV):Prop where
 blk:BkA 237 w g [.int .i64 (m:Int),v]
 lo:B<=g
 own:OwnP w B v ps
 rows:Av w B ps
 inv:Bk m (ps.map PKV.pd)
 most:m<=256
theorem Ay.below{ps:List PKV}(h:Ay w g B m v ps)(a:Below w.heap.size w w'):Ay w' g B m v ps:=
 ⟨h.blk.below a,h.lo,h.own.below a,h.rows.below a,h.inv,h.most⟩
theorem Ay.mono{ps:List PKV}(h:Ay w g B m v ps)(a:B'<=B):Ay w g B' m v ps:=
 ⟨h.blk,Nat.le_trans a h.lo,h.own.mono a,h.rows.mono a,h.inv,h.most⟩
theorem Ay.lt{ps:List PKV}(h:Ay w g B m v ps):g<w.heap.size:=h.blk.lt
theorem Ay.lob{ps:List PKV}(h:Ay w g B m v ps):B<=w.heap.size:=Nat.le_of_lt (Nat.lt_of_le_of_lt h.lo h.lt)
theorem Ay.len{ps:List PKV}(h:Ay w g B m v ps):ps.length<=m/\ps.length<=256:=by
 have a:=h.inv.le;have b:=h.most;rw[List.length_map]at a;omega
theorem Ay.low{ps:List PKV}(h:Ay w g B m v ps):∀j,j<B->¬CG g v j:=fun j b a=>by
 rcases a with rfl|a
 ·have:=h.lo;omega
 ·have:=(World.ownsRow.lt h.own j a).1;omega
theorem Ay.words{ps:List PKV}(h:Ay w g B m v ps):∀j a,w.heap[j]? =some (.cells a 265 (0,0))->¬CG g v j:=fun j a b c=>by
 rcases c with rfl|c
 ·exact h.blk.ne b (by decide) rfl
 ·obtain⟨d,e⟩:=h.own.blk c
  rw[e]at b;simp only[Option.some.injEq,Obj.cells.injEq]at b;exact absurd b.2.1 (by decide)
theorem Ay.keeps{ps:List PKV}(h:Ay w g B m v ps)(ht:Tu (CG g v) w w'):Below B w w':=ht.below h.lob h.low
theorem Ay.step{w0:World}{ps:List PKV}(h:Ay w g B m v ps)(a:Below B w0 w)(ht:Tu (CG g v) w w'):Below B w0 w':=a.trans (h.keeps ht)
theorem Ay.tu{ps:List PKV}(h:Ay w g B m v ps)(ht:Tu F w w')(b:∀j,CG g v j->¬F j)(d:∀j a,w.heap[j]? =some (.cells a 265 (0,0))->¬F j):Ay w' g B m v ps:=
 ⟨h.blk.tu ht (b g (.inl rfl)),h.lo,h.own.tu ht (fun j c=>b j (.inr c)),h.rows.tu ht d,h.inv,h.most⟩
theorem Ay.at{ps:List PKV}(h:Ay w g B m v ps):∃a c,v=.slice a ps.length c/\PksAt w a ps.length ps/\ps.length<=c/\c<=9223372036854775807:=h.own.pks h.rows.ks
theorem Ay.cells{ps:List PKV}(h:Ay w g B m v ps)(a:Below w.heap.size w w'):w'.cell? ⟨g,0,none⟩=some (.int .i64 (m:Int))/\w'.cell? ⟨g,1,none⟩=some v:=
 ⟨(h.blk.below a).at 0 rfl,(h.blk.below a).at 1 rfl⟩
def Cu(w:World)(v v':Value):Prop:=v'.ownBlock=v.ownBlock\/∀j,v'.ownBlock=some j->w.heap.size<=j
theorem Cu.refl(w:World)(v:Value):Cu w v v:=.inl rfl
theorem Cu.at{v':Value}(h:Cu w v v')(g j:Nat)(b:j<w.heap.size)(a:CG g v' j):CG g v j:=by
 rcases a with rfl|a
 ·exact .inl rfl
 ·rcases h with e|e
  ·exact .inr (e▸a)
  ·have:=e j a;omega
theorem Cu.trans{a:Value}(h:Cu w v v1)(k:Cu w1 v1 a)(c:w.heap.size<=w1.heap.size):Cu w v a:=by
 rcases k with e|e
 ·unfold Cu;rw[e];exact h
 ·exact .inr fun j b=>Nat.le_trans c (e j b)
theorem Cu.new(h:Cu w1 v v1)(a:w.heap.size<=w1.heap.size):Cu w v v1:=(Cu.refl w v).trans h a
theorem nJ{w2:World}(h:Tu (CG g v) w w1)(k:Tu (CG g v1) w1 w2)(c:Cu w v v1):Tu (CG g v) w w2:=h.trans k fun j b a=>c.at g j b a
theorem Ay.puts{ps b:List PKV}(h:Ay w g B m v ps)(ht:Tu (fun j=>v.ownBlock=some j) w w1)(d:OwnP w1 B v1 b)(o:Av w1 B b)(k:Bk m (b.map PKV.pd))(p:Cu w v v1):
  Ay (w1.setCell ⟨g,1,none⟩ v1) g B m v1 b/\Tu (CG g v) w (w1.setCell ⟨g,1,none⟩ v1):=by
 have c:BkA 237 w1 g [.int .i64 (m:Int),v]:=h.blk.tu ht fun e=>h.blk.neP h.own (by decide) e;have a:=Be w1 g 1 v1;refine⟨⟨c.set 1 v1,h.lo,d.tu a fun j l e=>c.neP d (by decide) (by rw[l,e]),o.tu a fun j f i e=>c.ne i (by decide) e.symm,k,h.most⟩,?_⟩;exact((Tu.refl (CG g v) w).trans ht (fun _ _ e=>.inr e)).trans a (fun _ _ e=>.inl e)
theorem aI(w:World)(m:Nat)(a:m<=256):Ay (w.alloc (.cells #[.int .i64 (m:Int),.slice none 0 0] 237)) w.heap.size w.heap.size m (.slice none 0 0) []:=
 ⟨AN 237 w [.int .i64 (m:Int),.slice none 0 0],Nat.le_refl _,OwnP.nil _ _,Av.nil _ _,Bk.nil _,a⟩
def zK:PKV:=⟨0,0,0,0,0,⟨none,0,0,[],⟨#[]⟩⟩⟩
def Eb(n:Nat)(us:List PKV):List PKV:=us++List.replicate (n-us.length) zK
theorem gC(n:Nat):Eb n []=List.replicate n zK:=by simp[Eb]
theorem eG{us:List PKV}(h:us.length<=n):(Eb n us).length=n:=by simp[Eb];omega
theorem kI{us:List PKV}(h:us.length=n):Eb n us=us:=by simp[Eb,h]
theorem gB{us:List PKV}(r:PKV)(h:us.length<n):(Eb n us).set us.length r=Eb n (us++[r]):=by
 unfold Eb;rw[List.set_append_right _ _ (Nat.le_refl _),Nat.sub_self,List.length_append,List.length_singleton,List.append_assoc,show n-us.length=(n-(us.length+1))+1 by omega,List.replicate_succ,List.set_cons_zero];rfl
theorem Sz:∀(ps:List PKV) (k:Nat) (p:PKV),(((((((cellsK ps).set (k*7) (.int .i64 p.o)).set (k*7+1) (.int .i64 p.l)).set (k*7+2) (.int .i64 p.k)).set (k*7+3) (.int .i64 p.z)).set (k*7+4) (.int .i64 p.h)).set (k*7+5) (.slice p.r.a p.r.n p.r.c)).set (k*7+6) (.string p.r.s)=cellsK (ps.set k p)
 |[],k,p=>by simp[cellsK]
 |x::ps,0,p=>by simp[cellsK,PKV.cells]
 |x::ps,k+1,p=>by
  have h:=Sz ps k p
  have e:∀(l:List Value) (j:Nat) (u:Value),(x.cells++l).set (7+j) u=x.cells++l.set j u:=fun l j u=>by
   rw[List.set_append_right _ _ (by show 7<=_;omega)];show _++l.set (7+j-7) u=_;rw[Nat.add_sub_cancel_left]
  show(((((((x.cells++cellsK ps).set ((k+1)*7) _).set ((k+1)*7+1) _).set ((k+1)*7+2) _).set ((k+1)*7+3) _).set ((k+1)*7+4) _).set ((k+1)*7+5) _).set ((k+1)*7+6) _=x.cells++cellsK (ps.set k p);rw[show(k+1)*7=7+k*7 by omega,Nat.add_assoc,Nat.add_assoc,Nat.add_assoc,Nat.add_assoc,Nat.add_assoc,Nat.add_assoc,e,e,e,e,e,e,e,h]
theorem RQ:∀n:Nat,(madeCells #[.int .i64 0,.int .i64 0,.int .i64 0,.int .i64 0,.int .i64 0,.slice none 0 0,.string ⟨#[]⟩] (n*7)).toList=cellsK (List.replicate n zK)
 |0=>by simp[madeCells,cellsK]
 |n+1=>by
  rw[List.replicate_succ',Kg,<-RQ n];unfold madeCells;rw[show(n+1)*7=n*7+1+1+1+1+1+1+1 by omega];simp only[Array.toList_map,Array.toList_range];rw[List.range_succ,List.range_succ,List.range_succ,List.range_succ,List.range_succ,List.range_succ,List.range_succ];simp[cellsK,PKV.cells,zK,Nat.mul_mod_left]
theorem Z6(n:Nat)(f:n<=1048576)(wx:World):(Instr.makeSlice 69 (.int .i64 (n:Int)) (.int .i64 (n:Int))).run Tryz.prog wx=.ok (.slice (some ⟨wx.heap.size,0,none⟩) n n) (wx.alloc (.cells (madeCells #[.int .i64 0,.int .i64 0,.int .i64 0,.int .i64 0,.int .i64 0,.slice none 0 0,.string ⟨#[]⟩] (n*7)) 75)):=by
 obtain⟨e,a,b,d,c⟩:=info_parts Mb;have:=run_make (P:=Tryz.prog) wx 69 75 e _ Tryz.underlying69 a b .i64 .i64 (n:Int) (n:Int) (by omega) (Int.le_refl _) (by rw[c];omega) (by omega);rw[d]at this;simpa [Value.cells]using this
theorem Z2(w:World)(n:Nat)(b:n<=1048576)(ps:List PKV)(a:ps=List.replicate n zK):OwnP (w.alloc (.cells (madeCells #[.int .i64 0,.int .i64 0,.int .i64 0,.int .i64 0,.int .i64 0,.slice none 0 0,.string ⟨#[]⟩] (n*7)) 75)) w.heap.size (.slice (some ⟨w.heap.size,0,none⟩) n n) ps:=by
 subst a;refine⟨Ik _,.inr ⟨w.heap.size,n,madeCells #[.int .i64 0,.int .i64 0,.int .i64 0,.int .i64 0,.int .i64 0,.slice none 0 0,.string ⟨#[]⟩] (n*7),by simp,Nat.le_refl _,heap_alloc_new w _,by simp,by unfold maxLen;omega,by simp[size_madeCells],?_⟩⟩;rw[RQ,List.take_of_length_le (by rw[Ik];exact Nat.le_refl _)]
def setK(w:World)(g off:Nat)(p:PKV):World:=((((((w.setCell ⟨g,off,none⟩ (.int .i64 p.o)).setCell ⟨g,off+1,none⟩ (.int .i64 p.l)).setCell ⟨g,off+2,none⟩ (.int .i64 p.k)).setCell ⟨g,off+3,none⟩ (.int .i64 p.z)).setCell ⟨g,off+4,none⟩ (.int .i64 p.h)).setCell ⟨g,off+5,none⟩ (.slice p.r.a p.r.n p.r.c)).setCell ⟨g,off+6,none⟩ (.string p.r.s)
theorem OwnP.stored{cap:Nat}{ps:List PKV}(h:OwnP w B (.slice (some ⟨g,0,none⟩) n cap) ps)(k:Nat)(p:PKV):OwnP (setK w g (k*7) p) B (.slice (some ⟨g,0,none⟩) n cap) (ps.set k p):=by
 obtain rfl:n=ps.length:=by
  rcases h.2 with⟨e,_⟩|⟨i,b,d,e,_⟩
  ·cases e
  ·simp only[Value.slice.injEq]at e;exact e.2.1
 have f:w.ownsRow B 75 7 (.slice (some ⟨g,0,none⟩) ps.length cap) ps.length (cellsK ps):=h;have:=((((((((f.stored (k*7) (.int .i64 p.o)).1.stored (k*7+1) (.int .i64 p.l)).1.stored (k*7+2) (.int .i64 p.k)).1.stored (k*7+3) (.int .i64 p.z)).1.stored (k*7+4) (.int .i64 p.h)).1.stored (k*7+5) (.slice p.r.a p.r.n p.r.c)).1.stored (k*7+6) (.string p.r.s))).1;rw[Sz]at this;show World.ownsRow _ B 75 7 _ (ps.set k p).length _;rw[List.length_set];exact this
theorem aG{a:World}(h:Below B a w){g:Nat}(b:B<=g)(off:Nat)(p:PKV):Below B a (setK w g off p):=
 ((((((h.setCell (p:=⟨g,off,none⟩) b _).setCell (p:=⟨g,off+1,none⟩) b _).setCell (p:=⟨g,off+2,none⟩) b _).setCell (p:=⟨g,off+3,none⟩) b _).setCell (p:=⟨g,off+4,none⟩) b _).setCell (p:=⟨g,off+5,none⟩) b _).setCell (p:=⟨g,off+6,none⟩) b _
theorem Av.set{ps:List PKV}(h:Av w B ps)(i:Nat)(u:Value)(a:g<B):Av (w.setCell ⟨g,i,none⟩ u) B ps:=fun r b=>(h r b).other i u a
theorem Av.setK{ps:List PKV}(h:Av w B ps)(off:Nat)(p:PKV)(a:g<B):Av (setK w g off p) B ps:=
 ((((((h.set off _ a).set (off+1) _ a).set (off+2) _ a).set (off+3) _ a).set (off+4) _ a).set (off+5) _ a).set (off+6) _ a
theorem mF(w:World)(g off:Nat)(p:PKV):(setK w g off p).heap.size=w.heap.size:=by unfold setK;simp
theorem kl(n:Int)(w:World):
  Calls Tryz.prog 103 #[.int .i64 n] w fun e w'=>e=.returned (.pointer (some ⟨w.heap.size,0,none⟩))/\Ay w' w.heap.size w.heap.size (capN n) (.slice none 0 0) []/\Below w.heap.size w w':=by
 have a:=MV n;have b:=MN n;go_enter Tryz.func103,Tryz.ntmps103;go_wp2;go_ret;exact⟨rfl,aI w (capN n) (JQ n),(Below.refl _ _).alloc (Nat.le_refl _) _⟩
theorem kj(g B m:Nat)(v:Value)(ps:List PKV)(w:World)(h:Ay w g B m v ps):
  Calls Tryz.prog 342 #[.pointer (some ⟨g,0,none⟩)] w fun e w'=>e=.returned (.int .i64 (ps.length:Int))/\w'=w:=by
 obtain⟨a,c,rfl, -, -, -⟩:=h.at;obtain⟨b,d⟩:=h.cells (Below.refl _ _);clear h;go_enter Tryz.func342,Tryz.ntmps342;go_wp2;go_ret;exact⟨rfl,rfl⟩
theorem Vz(p:PKV)(w:World):
  Calls Tryz.prog 352 #[p.val] w fun e w'=>e=.returned (.agg #[.int .i64 p.o,.int .i64 p.l,.int .i64 p.k,.int .i64 p.z])/\Below w.heap.size w w':=by
 unfold PKV.val;go_enter Tryz.func352,Tryz.ntmps352;go_wp2;exact bodyPost_ret (v:=.agg #[.int .i64 p.o,.int .i64 p.l,.int .i64 p.k,.int .i64 p.z]) (by simp[results,Tryz.results352,go_sem]) rfl ⟨rfl,((Below.refl _ _).alloc (Nat.le_refl _) _).alloc (by simp) _⟩
theorem Yf(o l k z h f e i:Int)(W:World):
  (binOp .eql 423 (.agg #[.int .i64 o,.int .i64 l,.int .i64 k,.int .i64 z]) (.agg #[.int .i64 h,.int .i64 f,.int .i64 e,.int .i64 i])).run Tryz.prog W=.ok (.bool (decide (o=h/\l=f/\k=e/\z=i))) W:=by
 rw[run_eql_struct,run_equalIn_struct (d:=9999) (ht:=by kernel_rfl) (hp:=by kernel_rfl)];simp only[Program.fieldsOf,Tryz.underlying423];by_cases a:o=h
 ·by_cases b:l=f
  ·by_cases c:k=e
   ·by_cases j:z=i
    ·simp[Op.eqFields,BS,go_sem,Tryz.underlying3,a,b,c,j]
    ·simp[Op.eqFields,BS,go_sem,Tryz.underlying3,a,b,c,j]
   ·simp[Op.eqFields,BS,go_sem,Tryz.underlying3,a,b,c]
  ·simp[Op.eqFields,BS,go_sem,Tryz.underlying3,a,b]
 ·simp[Op.eqFields,BS,go_sem,Tryz.underlying3,a]
theorem Own.setB7{xs:List Nat}(h:Own w B v xs)(a:g<B)(u0 u1 u2 u3 u4 u5 u6:Value):Own (set7 w g u0 u1 u2 u3 u4 u5 u6) B v xs:=
 ((((((h.other 0 u0 a).other 1 u1 a).other 2 u2 a).other 3 u3 a).other 4 u4 a).other 5 u5 a).other 6 u6 a
theorem Tr{wx:World}{tmps:Array Value}{b:Nat}{o l k z h:Int}{v5 u5:Value}{s:ByteArray}{z0 r u z3 z4 z5 x:Value}(ht:tmps.getD 2 undef=.pointer (some ⟨b+1,0,none⟩))(e:AX wx (b+1) z0 r u z3 z4 z5 x):
  (results Tryz.f344 tmps).run Tryz.prog (set7 ((wx.setCell ⟨b,5,none⟩ v5).setCell ⟨b,6,none⟩ (.string s)) (b+1) (.int .i64 o) (.int .i64 l) (.int .i64 k) (.int .i64 z) (.int .i64 h) u5 (.string s))=
   .ok (.agg #[.int .i64 o,.int .i64 l,.int .i64 k,.int .i64 z,.int .i64 h,u5,.string s]) (set7 ((wx.setCell ⟨b,5,none⟩ v5).setCell ⟨b,6,none⟩ (.string s)) (b+1) (.int .i64 o) (.int .i64 l) (.int .i64 k) (.int .i64 z) (.int .i64 h) u5 (.string s)):=by
 have d:=((e.other (a:=⟨b,5,none⟩) (Nat.succ_ne_self b) v5).other (a:=⟨b,6,none⟩) (Nat.succ_ne_self b) (.string s)).sets (.int .i64 o) (.int .i64 l) (.int .i64 k) (.int .i64 z) (.int .i64 h) u5 (.string s);obtain⟨f,r1,r2,i,j,p,q⟩:=d.at;have c:tmps[2]?.getD undef=.pointer (some ⟨b+1,0,none⟩):=by simpa using ht
 generalize set7 ((wx.setCell ⟨b,5,none⟩ v5).setCell ⟨b,6,none⟩ (.string s)) (b+1) (.int .i64 o) (.int .i64 l) (.int .i64 k) (.int .i64 z) (.int .i64 h) u5 (.string s)=X at*;simp[results,Tryz.results344,go_sem,c,f,r1,r2,i,j,p,q]
theorem Tq{wx:World}{a:Option Addr}{c2:Nat}{xs:List Nat}{o l k z h:Int}{s:ByteArray}(c:Own wx (w.heap.size+2) (.slice a n c2) xs)(b:Below w.heap.size w wx):
  Own (set7 ((wx.setCell ⟨w.heap.size,5,none⟩ (.slice a n c2)).setCell ⟨w.heap.size,6,none⟩ (.string s)) (w.heap.size+1) (.int .i64 o) (.int .i64 l) (.int .i64 k) (.int .i64 z) (.int .i64 h) (.slice a n c2) (.string s)) w.heap.size (.slice a n c2) xs/\
   Below w.heap.size w (set7 ((wx.setCell ⟨w.heap.size,5,none⟩ (.slice a n c2)).setCell ⟨w.heap.size,6,none⟩ (.string s)) (w.heap.size+1) (.int .i64 o) (.int .i64 l) (.int .i64 k) (.int .i64 z) (.int .i64 h) (.slice a n c2) (.string s)):=
 ⟨(((c.other 5 _ (by omega)).other 6 _ (by omega)).setB7 (by omega) _ _ _ _ _ _ _).mono (Nat.le_add_right _ _),CD ((b.setCell (p:=⟨w.heap.size,5,none⟩) (Nat.le_refl _) _).setCell (p:=⟨w.heap.size,6,none⟩) (Nat.le_refl _) _) (Nat.le_succ _) _ _ _ _ _ _ _⟩
theorem OP(p:PKV)(w:World)(h:RowAt w p.r.a p.r.n p.r.xs)(S:p.r.n<=1048576)(O:p.r.s.size<=1048576):
  Calls Tryz.prog 344 #[p.val] w fun e w'=> ∃C c2,e=.returned (PKV.val ⟨p.o,p.l,p.k,p.z,p.h,⟨C,p.r.n,c2,p.r.xs,p.r.s⟩⟩)/\Own w' w.heap.size (.slice C p.r.n c2) p.r.xs/\Below w.heap.size w w':=by
 obtain⟨o,l,k,z,hp,a,n,c,xs,s⟩:=p;unfold PKV.val;dsimp only at h S O⊢;have x:=(CM w (.int .i64 o) (.int .i64 l) (.int .i64 k) (.int .i64 z) (.int .i64 hp) (.slice a n c) (.string s)).below ((Below.refl _ _).alloc (Nat.le_refl _) (.cells #[.int .i64 0,.int .i64 0,.int .i64 0,.int .i64 0,.int .i64 0,.slice none 0 0,.string ⟨#[]⟩] 75));have y:=CM (w.alloc (.cells #[.int .i64 o,.int .i64 l,.int .i64 k,.int .i64 z,.int .i64 hp,.slice a n c,.string s] 75)) (.int .i64 0) (.int .i64 0) (.int .i64 0) (.int .i64 0) (.int .i64 0) (.slice none 0 0) (.string ⟨#[]⟩);rw[Bc]at y;have q:Below w.heap.size w ((w.alloc (.cells #[.int .i64 o,.int .i64 l,.int .i64 k,.int .i64 z,.int .i64 hp,.slice a n c,.string s] 75)).alloc (.cells #[.int .i64 0,.int .i64 0,.int .i64 0,.int .i64 0,.int .i64 0,.slice none 0 0,.string ⟨#[]⟩] 75)):=GV (Below.refl _ w) (Below.refl _ _);have H:((w.alloc (.cells #[.int .i64 o,.int .i64 l,.int .i64 k,.int .i64 z,.int .i64 hp,.slice a n c,.string s] 75)).alloc (.cells #[.int .i64 0,.int .i64 0,.int .i64 0,.int .i64 0,.int .i64 0,.slice none 0 0,.string ⟨#[]⟩] 75)).heap.size=w.heap.size+2:=by rw[Bc,Bc]
 have N:=h.below q;have E:=h.1;generalize hW:(w.alloc (.cells #[.int .i64 o,.int .i64 l,.int .i64 k,.int .i64 z,.int .i64 hp,.slice a n c,.string s] 75)).alloc (.cells #[.int .i64 0,.int .i64 0,.int .i64 0,.int .i64 0,.int .i64 0,.slice none 0 0,.string ⟨#[]⟩] 75)=W at*;have J:=Ab (fun wx (I:Below W.heap.size W wx)=>He a n c xs wx (N.below I) (by omega));have K:=Ab (fun wx=>GS s wx O);have b:=Ab (fun wx (I:Below W.heap.size W wx)=>show _/\_ from⟨x.below I,y.below I⟩);have A:=Ab q;have P:=Ab E;have Q:=Ab H;obtain⟨-, -, -, -, -,c5,c6⟩:=x.at;clear h N x y q E H;go_enter Tryz.func344,Tryz.ntmps344;go_wp2_with fail
 go_region_law (first
  |(go_simp;go_at_call 253;refine(Aa J _ (by first|exact Aa d|exact(Below.refl _ _).drew)).mono ?_;rintro e w1 ⟨v1,rfl,i,D⟩;obtain⟨C,c2,rfl, -⟩:=i.row;have j:=Ab (show Below W.heap.size W w1 from Ad (by first|exact Aa d|exact(Below.refl _ _).drew) D);rw[Aa P]at i⊢;have f:=Ab (i.mono (B':=w.heap.size+2) (by rw[<-Aa Q];first|exact(Aa d).size|exact Nat.le_refl _));obtain⟨⟨T,V,X,Y,Z,q5,q6⟩,⟨y0,y1,y2,y3,y4,y5,y6⟩⟩:=And.intro (Aa b w1 (Aa j)).1.at (Aa b w1 (Aa j)).2.at;have f5:=(Aa b w1 (Aa j)).1.frz 5;have f6:=(Aa b w1 (Aa j)).1.frz 6;have R:=(Aa b w1 (Aa j)).2.frz;clear i D)
  |(go_simp;go_at_call 33;refine(Aa K _).mono ?_;rintro e w2 ⟨rfl,u⟩;have d:=Ab (show Below W.heap.size W w2 from Ad (by first|exact Aa j|exact(Below.refl _ _).drew) u);(first|(have f:=Ab ((Aa f).below u))|skip);obtain⟨⟨T,V,X,Y,Z,q5,q6⟩,⟨y0,y1,y2,y3,y4,y5,y6⟩⟩:=And.intro (Aa b w2 (Aa d)).1.at (Aa b w2 (Aa d)).2.at;have f5:=(Aa b w2 (Aa d)).1.frz 5;have f6:=(Aa b w2 (Aa d)).1.frz 6;have R:=(Aa b w2 (Aa d)).2.frz;clear u)
  |fail)
 all_goals go_wp2
 all_goals first
  |exact bodyPost_ret (Tr (wx:=w2) rfl (Aa b w2 (Aa d)).2) rfl ⟨C,c2,rfl,Tq (Aa f) (Ad (Aa A) (Aa d))⟩
  |exact bodyPost_ret (Tr (wx:=w1) rfl (Aa b w1 (Aa j)).2) rfl ⟨C,c2,rfl,Tq (Aa f) (Ad (Aa A) (Aa j))⟩
end Go.Proofs.YtfpmnekaockodaaGreatDoor
