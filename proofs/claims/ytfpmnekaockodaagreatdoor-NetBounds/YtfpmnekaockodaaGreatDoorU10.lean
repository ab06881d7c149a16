/- Laws for the proof. -/
import Derived.Test.YtfpmnekaockodaaGreatDoorU9
import Derived.Lib.Overlaps
import Derived.Laws.Externs
namespace Go.Proofs.YtfpmnekaockodaaGreatDoor
open Go.RowKit
set_option linter.all false
set_option maxRecDepth 4000
theorem Md:(Tryz.prog.info? 40).map (fun i=>(i.zero,i.size,i.bytes))=some (some (.slice none 0 0),1,24):=by kernel_rfl
theorem nb(w:World):(sizeOf 40).run Tryz.prog w=.ok 1 w:=by
 obtain⟨d,a,_,c,_⟩:=info_parts Md;simp[sizeOf,typeInfo,a,c]
end Go.Proofs.YtfpmnekaockodaaGreatDoor
namespace Go.Proofs.YtfpmnekaockodaaGreatDoor
open Go.RowKit
set_option linter.all false
set_option maxRecDepth 4000
variable {rs:List (List Nat)}{vs l0:List Value}{B:Nat}{v:Value}{w w':World}
structure AA(w:World)(B:Nat)(v:Value)(vs:List Value)(rs:List (List Nat)):Prop where
 top:w.ownsRow B 40 1 v rs.length vs
 rows:∀i u,vs[i]? =some u->Own w B u (rs.getD i [])
 apart:vs.Pairwise Er
theorem AA.len(h:AA w B v vs rs):vs.length=rs.length:=by simpa using h.top.1
theorem AA.nil(w:World)(B:Nat):AA w B (.slice none 0 0) [] []:=⟨World.ownsRow_nil _ _ _ _,(fun i u h=>by simp at h),.nil⟩
theorem Uj{B':Nat}{u:Value}{n:Nat}{cs:List Value}{xs:List Nat}(h:w.ownsRow B 40 1 v n cs)(k:Own w B' u xs):Er u v:=by
 rcases h.2 with⟨rfl,_⟩|⟨g,cap,f,rfl,l,j,_⟩
 ·by_cases e:u.ownBlock=none
  ·exact .inl e
  ·exact .inr e
 ·rcases k.2.2 with⟨rfl,_⟩|⟨g',c,d,rfl,i,a,_⟩
  ·exact .inl rfl
  ·right
   intro e;simp only[Value.ownBlock,Option.some.injEq]at e;rw[e]at a;rw[j]at a;simp at a
theorem AA.dis(h:AA w B v vs rs){i:Nat}{u:Value}(a:vs[i]? =some u):Er u v:=Uj h.top (h.rows i u a)
theorem Ki{e:TypeId}{n:Nat}{cs:List Value}(h:w.ownsRow B e 1 v n cs)(a:Below w.heap.size w w'):w'.ownsRow B e 1 v n cs:=
 h.kept (CN a none) (by cases c:v.ownBlock<;>simp)
theorem AA.below(h:AA w B v vs rs)(a:Below w.heap.size w w'):AA w' B v vs rs:=
 ⟨Ki h.top a,fun i u c=>(h.rows i u c).below a,h.apart⟩
theorem AA.mono{B':Nat}(h:AA w B v vs rs)(c:B'<=B):AA w B' v vs rs:=by
 refine⟨⟨h.top.1,?_⟩,fun i u j=>(h.rows i u j).mono c,h.apart⟩;rcases h.top.2 with d|⟨g,cap,a,e,f,r⟩
 ·exact .inl d
 ·exact .inr ⟨g,cap,a,e,Nat.le_trans c f,r⟩
theorem AA.vecs(h:AA w B v vs rs):∃a c,v=.slice a rs.length c/\VecsAt w a rs.length rs:=by
 have E:=h.len;rcases h.top.2 with⟨rfl,l⟩|⟨g,cap,p,rfl,D,u,y,q,s,ht⟩
 ·exact⟨none,0,by rw[l],rfl,.inl l,fun _ _ _ _ _ _ e=>by cases e⟩
 ·have d:∀i (j:i<vs.length),w.cell? ⟨g,i,none⟩=some vs[i]:=fun i j=>by
   rw[cell_of_row w g i _ _ _ u,<-Array.getElem?_toList,<-List.getElem?_eq_getElem j,<-ht,List.getElem?_take_of_lt (by omega)]
  refine⟨_,cap,rfl,rfl,.inr ⟨g,0,rfl,fun i j=>?_⟩,fun b off i A k C e j m=>?_⟩
  ·have f:i<vs.length:=by omega
   obtain⟨a,c,e,z⟩:=(h.rows i vs[i] (List.getElem?_eq_getElem f)).row;refine⟨a,c,?_,z⟩;rw[Nat.zero_add,d i f,e]
  ·simp only[Option.some.injEq,Addr.mk.injEq,and_true]at e
   obtain⟨rfl,rfl⟩:=e;have f:i<vs.length:=by omega
   have o:=h.rows i vs[i] (List.getElem?_eq_getElem f);rw[Nat.zero_add,d i f]at m;rw[Option.some.inj m]at o;exact o.cap
def IK(l:List Value)(b:Nat):Prop:=∀u∈l,u.ownBlock≠some b
structure Bf(w w':World)(l0 l:List Value):Prop where
 os:w'.os=w.os
 tape:w'.tape=w.tape
 output:w'.output=w.output
 size:w.heap.size<=w'.heap.size
 block:∀b,b<w.heap.size->IK l0 b->w'.heap[b]? =w.heap[b]? /\IK l b
theorem Bf.refl(w:World)(l:List Value):Bf w w l l:=⟨rfl,rfl,rfl,Nat.le_refl _,fun _ _ h=>⟨rfl,h⟩⟩
theorem Bf.trans{w1 w2:World}{c d:List Value}(h:Bf w w1 l0 c)(k:Bf w1 w2 c d):Bf w w2 l0 d:=
 ⟨k.os.trans h.os,k.tape.trans h.tape,k.output.trans h.output,Nat.le_trans h.size k.size,fun b a j=>by
  obtain⟨e,f⟩:=h.block b a j;obtain⟨g,i⟩:=k.block b (Nat.lt_of_lt_of_le a h.size) f;exact⟨g.trans e,i⟩⟩
theorem Bf.of_below(h:Below w.heap.size w w')(l:List Value):Bf w w' l l:=⟨h.os,h.tape,h.output,h.size,fun b a c=>⟨h.block b a,c⟩⟩
theorem AA.off(h:AA w B v vs rs){b:Nat}(d:b<B\/w.heap.size<=b):IK (v::vs) b:=by
 intro u a e;rcases List.mem_cons.1 a with rfl|a
 ·have:=h.top.lt b e;omega
 ·obtain⟨i,c,rfl⟩:=List.getElem_of_mem a
  have:=(h.rows i _ (List.getElem?_eq_getElem c)).lt e;omega
theorem Bf.below{l:List Value}(h:Bf w w' l0 l){B:Nat}(d:B<=w.heap.size)(c:∀b,b<B->IK l0 b):Below B w w':=
 ⟨h.os,h.tape,h.output,h.size,fun b a=>(h.block b (by omega) (c b a)).1⟩
theorem Bf.cell{l:List Value}(h:Bf w w' l0 l){p:Addr}{u:Value}(a:w.cell? p=some u)(c:IK l0 p.block):w'.cell? p=some u:=
 (World.cell?_of_block (h.block p.block (World.block_lt_of_cell? w _ a) c).1).trans a
theorem AA.two(h:AA w B v vs rs){i j:Nat}{u g:Value}(c:i≠j)(k:vs[i]? =some u)(d:vs[j]? =some g):Er u g:=by
 obtain⟨e,rfl⟩:=List.getElem?_eq_some_iff.1 k;obtain⟨f,rfl⟩:=List.getElem?_eq_some_iff.1 d;have hp:=List.pairwise_iff_getElem.1 h.apart;rcases Nat.lt_or_gt_of_ne c with a|a
 ·exact hp i j e f a
 ·exact(hp j i f e a).symm
theorem gR(r:List Nat)(p i:Nat)(C:List (List Nat))(hp:p<=C.length):(FM r p C).getD i []=if i<p then C.getD i []else if i=p then r else C.getD (i-1) []:=by
 unfold FM;have d:(C.take p).length=p:=by rw[List.length_take];omega
 rw[List.getD_eq_getElem?_getD];split
 ·rename_i a
  rw[List.getElem?_append_left (by omega),List.getElem?_take_of_lt a,List.getD_eq_getElem?_getD]
 ·rename_i a
  rw[List.getElem?_append_right (by omega),d];split
  ·rename_i c;subst c;simp
  ·rename_i c
   rw[show i-p=(i-p-1)+1 by omega,List.getElem?_cons_succ,List.getElem?_drop,List.getD_eq_getElem?_getD,show p+(i-p-1)=i-1 by omega]
theorem AA.insert{p:Nat}{s e:Value}{r:List Nat}(h:AA w B v vs rs)(l:Own w B e r)(m:∀u∈vs,Er u e)(hp:p<=rs.length)
  (d:w'.ownsRow B 40 1 s (rs.length+1) (vs.take p++e::vs.drop p)) (g:w.grownBy w' v.ownBlock):AA w' B s (vs.take p++e::vs.drop p) (FM r p rs):=by
 have o:=h.len;have j:(vs.take p).length=p:=by rw[List.length_take];omega
 refine⟨by rw[NE r p rs hp];exact d,fun i u c=>?_,?_⟩
 ·rw[gR r p i rs hp]
  by_cases f:i<p
  ·rw[if_pos f]
   rw[List.getElem?_append_left (by omega),List.getElem?_take_of_lt f]at c;exact(h.rows i u c).kept g (h.dis c)
  ·rw[if_neg f]
   rw[List.getElem?_append_right (by omega),j]at c;by_cases k:i=p
   ·subst k
    rw[if_pos rfl];simp at c;subst c;exact l.kept g (Uj h.top l)
   ·rw[if_neg k]
    rw[show i-p=(i-p-1)+1 by omega,List.getElem?_cons_succ,List.getElem?_drop,show p+(i-p-1)=i-1 by omega]at c;exact(h.rows (i-1) u c).kept g (h.dis c)
 ·refine(List.Perm.pairwise_iff (fun h=>Er.symm h) (List.perm_middle (a:=e) (l₁:=vs.take p) (l₂:=vs.drop p))).2 ?_
  rw[List.take_append_drop];exact List.pairwise_cons.2 ⟨fun u c=>(m u c).symm,h.apart⟩
set_option maxHeartbeats 400000 in
theorem Qs(a:Option Addr)(n c:Nat)(rs:List (List Nat))(f:Option Addr)(m j:Nat)(xs:List Nat)(w:World)(ht:Tab w)(h:VecsAt w a n rs)(g:AC 1048576 rs)(d:RowAt w f m xs)(y:n<=1048576)(l:m<=1048576):
  Calls Tryz.prog 285 #[.slice a n c,.slice f m j] w fun e w'=>e=.returned (.bool (decide (firstI (reduceL rs xs)<0)))/\Below w.heap.size w w':=by
 have i:=Ab (N8 a n c rs f m j xs w ht h g d y l);have u:=(EZ g d.2.1 (by rw[d.1];exact l)).2;clear h d g;generalize reduceL rs xs=r at*;go_enter Tryz.func285,Tryz.ntmps285;go_wp2_with fail;refine(Aa i).mono ?_;rintro e w1 ⟨v,rfl,o,k⟩;obtain⟨s,c1,rfl,p⟩:=o.row;have q:=Ab (JE s r.length c1 r w1 (ht.below k) p u);clear o p i;go_wp2_with (go_at_call 222;refine(Aa q).mono ?_;rintro e w2 ⟨rfl,rfl⟩);go_ret;exact⟨rfl,k⟩
end Go.Proofs.YtfpmnekaockodaaGreatDoor
namespace Go.Proofs.YtfpmnekaockodaaGreatDoor
open Go.RowKit
set_option linter.all false
set_option maxRecDepth 4000
variable {rs:List (List Nat)}{vs:List Value}{B n:Nat}{w w':World}
theorem Tab.belowB(h:Tab w)(c:Below B w w')(a:2<B):Tab w':=fun i d=>(c.cell (p:=⟨2,i,none⟩) a).trans (h i d)
theorem AA.cell{g cap:Nat}(h:AA w B (.slice (some ⟨g,0,none⟩) n cap) vs rs){k:Nat}{u:Value}(e:vs[k]? =some u):
  w.cell? ⟨g,k,none⟩=some u/\w.frozen? ⟨g,k,none⟩=false:=by
 rcases h.top.2 with⟨a,_⟩|⟨g',c,f,a,m,d,l,i,j,ht⟩
 ·cases a
 ·simp only[Value.slice.injEq,Option.some.injEq,Addr.mk.injEq,and_true]at a
  obtain⟨rfl,_,rfl⟩:=a;have o:k<vs.length:=(List.getElem?_eq_some_iff.1 e).1;have p:=h.len;refine⟨?_,by simp[World.frozen?,d]⟩;rw[cell_of_row w g k _ _ _ d,<-Array.getElem?_toList,<-e,<-ht,List.getElem?_take_of_lt (by omega)]
theorem AA.some{c:Nat}{a:Option Addr}(h:AA w B (.slice a n c) vs rs)(i:0<rs.length):∃g,a=Option.some ⟨g,0,none⟩:=by
 rcases h.top.2 with⟨_,d⟩|⟨g',e,f,d,_⟩
 ·omega
 ·simp only[Value.slice.injEq]at d
  exact⟨g',d.1⟩
theorem AA.one{v:Value}(h:AA w B v vs rs):∀u∈vs,u.oneCell'=true:=by
 intro u f;obtain⟨i,d,rfl⟩:=List.getElem_of_mem f;obtain⟨a,c,e,_⟩:=(h.rows i _ (List.getElem?_eq_getElem d)).row;rw[e];rfl
theorem Own.keeps{v:Value}{xs:List Nat}{l0 l:List Value}(h:Own w B v xs)(k:Bf w w' l0 l)(i:∀b,v.ownBlock=some b->IK l0 b):Own w' B v xs:=by
 refine⟨h.1,h.2.1,?_⟩;rcases h.2.2 with e|⟨g,cap,c,d,f,a,r⟩
 ·exact .inl e
 ·exact .inr ⟨g,cap,c,d,f,(k.block g (Array.getElem?_eq_some_iff.1 a).1 (i g (by rw[d];rfl))).1.trans a,r⟩
theorem CA.keeps{lo p:Nat}{a:Option Addr}{c:Nat}{l0 l:List Value}(h:CA w lo p a n c)(k:Bf w w' l0 l)(hp:IK l0 p):CA w' lo p a n c:=
 ⟨h.1,k.cell h.2 hp⟩
end Go.Proofs.YtfpmnekaockodaaGreatDoor
namespace Go.Proofs.YtfpmnekaockodaaGreatDoor
open Go.RowKit
set_option linter.all false
set_option maxRecDepth 4000
theorem pm(w:World)(n:Nat)(e:n<=1048576)(rs:List (List Nat))(c:rs=List.replicate n []):
  AA (w.alloc (.cells (madeCells #[.slice none 0 0] n) 40)) w.heap.size (.slice (some ⟨w.heap.size,0,none⟩) n n) (List.replicate n (.slice none 0 0)) rs:=by
 subst c;refine⟨⟨by simp,.inr ⟨w.heap.size,n,madeCells #[.slice none 0 0] n,by simp,Nat.le_refl _,heap_alloc_new w _,by simp,by unfold maxLen;omega,by simp[size_madeCells],?_⟩⟩,fun i u a=>?_,?_⟩
 ·rw[toList_madeCells_one,List.take_of_length_le (by simp)]
 ·rw[List.getElem?_replicate]at a
  split at a
  ·rename_i d
   obtain rfl:=Option.some.inj a;rw[List.getD_eq_getElem?_getD,List.getElem?_replicate,if_pos d];exact Own.nil _ _
  ·cases a
 ·refine List.pairwise_replicate.2 (.inr (.inl rfl))
end Go.Proofs.YtfpmnekaockodaaGreatDoor
namespace Go.Proofs.YtfpmnekaockodaaGreatDoor
open Go.RowKit Go.Sort
set_option linter.all false
set_option maxRecDepth 4000
variable {rs:List (List Nat)}{vs:List Value}{B:Nat}{v:Value}{w w':World}
theorem AA.push{s a:Value}{r:List Nat}(h:AA w B v vs rs)(i:Own w B a r)(f:∀u∈vs,Er u a)
  (c:w'.ownsRow B 40 1 s (rs.length+1) (vs++[a])) (g:w.grownBy w' v.ownBlock):AA w' B s (vs++[a]) (rs++[r]):=by
 have j:=h.len;have d:vs.take rs.length++a::vs.drop rs.length=vs++[a]:=by rw[List.take_of_length_le (by omega),List.drop_of_length_le (by omega)]
 have e:FM r rs.length rs=rs++[r]:=by unfold FM;simp
 have:=h.insert (p:=rs.length) i f (Nat.le_refl _) (by rw[d];exact c) g;rwa[d,e]at this
theorem el{ops:Array Oper}{rest:List Oper}{o:Oper}{act:Act}{Q:Exit->Act->World->Prop}(l:o.guard=none)(s x:Operand)
  (K:o.op=.call {callee:=.builtin .append,args:=#[s,x],argTypes:=#[260,260]}) (B:Nat) (v:Value) (vs:List Value) (rs:List (List Nat)) (f:Value) (r:List Nat)
  (L:act.eval s=v) (O:act.eval x=.slice (some ⟨w.heap.size,0,none⟩) 1 1) (h:AA w B v vs rs) (D:B<=w.heap.size) (A:Own w B f r) (I:∀u∈vs,Er u f) (R:rs.length<=1048576)
  (E:∀C w',AA w' B C (vs++[f]) (rs++[r])->w.grownBy w' v.ownBlock->wpList Tryz.prog ops Q rest (act.put o.dst C) w'):wpList Tryz.prog ops Q (o::rest) act (w.alloc (.cells #[f] 40)):=by
 obtain⟨P,J,m,p,q⟩:=info_parts Md;have k:Below w.heap.size w (w.alloc (.cells #[f] 40)):=(Below.refl _ _).alloc (Nat.le_refl _) _;have y:=h.below k;have g:f.oneCell'=true:=by
  obtain⟨a,c,e,_⟩:=A.row;rw[e];rfl
 refine wpList_append_own _ l s x 260 K B 40 P (.slice none 0 0) 1 24 Tryz.underlying260 J m p q rfl (by decide) v rs.length vs L y.top ⟨w.heap.size,0,none⟩ 1 1 [f] O rfl (fun j u z=>?_)
  (fun u N=>by rw[List.mem_singleton.1 N];exact g) (by unfold maxLen;omega) (by omega) (Nat.le_trans D k.size) ?_
 ·match j with
  |0=>
   have H:(w.alloc (.cells #[f] 40)).cell? ⟨w.heap.size,0,none⟩=some f:=by rw[World.cell?_alloc_at _ _ _ _ rfl];rfl
   simpa [Addr.add,H]using z
  |j+1=>simp at z
 ·intro v' w' i d _
  exact E v' w' (y.push (A.below k) I i d) (BD (CN k _) d (.inl rfl))
theorem kQ{u:Value}{xs d:List Nat}(h:Own w B u xs)(k:Own w' w.heap.size v d):Er u v:=by
 by_cases c:u.ownBlock=none
 ·exact .inl c
 ·right
  intro e;obtain⟨b,a⟩:=Option.ne_none_iff_exists'.1 c;have f:=(h.lt a).2;have g:=(k.lt (by rw[<-e];exact a)).1;omega
theorem AA.dis_new{a:Value}{e:List Nat}(h:AA w B v vs rs)(k:Own w' w.heap.size a e):∀u∈vs,Er u a:=by
 intro u d;obtain⟨i,c,rfl⟩:=List.getElem_of_mem d;exact kQ (h.rows i _ (List.getElem?_eq_getElem c)) k
theorem AA.shape(h:AA w B v vs rs):∃a c,v=.slice a rs.length c:=by
 obtain⟨a,c,e,_⟩:=h.vecs;exact⟨a,c,e⟩
end Go.Proofs.YtfpmnekaockodaaGreatDoor
namespace Go.Proofs.YtfpmnekaockodaaGreatDoor
open Go.RowKit Go.Sort
set_option linter.all false
set_option maxRecDepth 4000
variable {ts:List RV}{w:World}
def vecsL(rs:List RV):List (List Nat):=rs.map fun r=>r.xs
def CR(w:World)(B:Nat)(v:Value)(ts:List RV):Prop:=w.ownsRow B 40 1 v ts.length (ts.map fun r=>.slice r.a r.n r.c)
theorem CR.nil(w:World)(B:Nat):CR w B (.slice none 0 0) []:=World.ownsRow_nil _ _ _ _
theorem CR.vecs{B:Nat}{v:Value}(h:CR w B v ts)(p:Ae w ts):∃a c,v=.slice a ts.length c/\VecsAt w a ts.length (vecsL ts):=by
 have y:w.ownsRow B 40 1 v ts.length (ts.map fun r=>.slice r.a r.n r.c):=h;rcases h.2 with⟨rfl,m⟩|⟨g,cap,u,rfl,A,C,E,D,z,ht⟩
 ·exact⟨none,0,by rw[m],by simp[vecsL],.inl m,fun b off i q k s e=>by cases e⟩
 ·have f:∀i,i<ts.length->w.cell? ⟨g,0+i,none⟩=some (.slice (ts.getD i .dflt).a (ts.getD i .dflt).n (ts.getD i .dflt).c):=fun i d=>by
   rw[Nat.zero_add,y.cellAt i (by omega),List.getElem?_map,List.getElem?_eq_getElem d,List.getD_eq_getElem?_getD,List.getElem?_eq_getElem d];rfl
  have l:∀i,i<ts.length->(vecsL ts).getD i []=(ts.getD i .dflt).xs:=fun i d=>by
   unfold vecsL;rw[List.getD_eq_getElem?_getD,List.getElem?_map,List.getElem?_eq_getElem d,List.getD_eq_getElem?_getD,List.getElem?_eq_getElem d];rfl
  refine⟨_,cap,rfl,by simp[vecsL],.inr ⟨g,0,rfl,fun i d=>?_⟩,fun b off i q k s e d o=>?_⟩
  ·have j:=p.get d
   rw[l i d];refine⟨(ts.getD i .dflt).a,(ts.getD i .dflt).c,?_,?_⟩
   ·rw[j.1.1];exact f i d
   ·rw[j.1.1];exact j.1
  ·simp only[Option.some.injEq,Addr.mk.injEq,and_true]at e
   obtain⟨rfl,rfl⟩:=e;rw[f i d]at o;simp only[Option.some.injEq,Value.slice.injEq]at o;have:=(p.get d).2;omega
theorem Qr(g:Ae w ts)(h:Af ts):AC 1048576 (vecsL ts):=fun b e=>by
 obtain⟨r,f,rfl⟩:=List.mem_map.1 e;obtain⟨i,d,rfl⟩:=List.mem_iff_getElem.1 f;have a:=g _ (List.getElem_mem d);have c:=h i;rw[List.getD_eq_getElem?_getD,List.getElem?_eq_getElem d]at c;simp only[Option.getD_some]at c;exact⟨a.1.2.1,by rw[a.1.1];omega⟩
theorem CR.below{w':World}{B:Nat}{v:Value}(h:CR w B v ts)(a:Below w.heap.size w w'):CR w' B v ts:=Ki h a
def E5(ts:List RV)(k:Nat):List Value:=(ts.take k).map (fun r=>Value.slice r.a r.n r.c)++List.replicate (ts.length-k) (.slice none 0 0)
theorem Sm(ts:List RV):E5 ts 0=List.replicate ts.length (.slice none 0 0):=by simp[E5]
theorem Uu(ts:List RV):E5 ts ts.length=ts.map fun r=>Value.slice r.a r.n r.c:=by simp[E5]
theorem Sl(ts:List RV)(k:Nat)(d:k<ts.length):(E5 ts k).set k (.slice (ts.getD k .dflt).a (ts.getD k .dflt).n (ts.getD k .dflt).c)=E5 ts (k+1):=by
 unfold E5;have e:((ts.take k).map fun r=>Value.slice r.a r.n r.c).length=k:=by simp;omega
 rw[List.set_append_right _ _ (by omega),e,Nat.sub_self,List.take_succ_eq_append_getElem d,List.map_append,List.append_assoc,show ts.length-k=(ts.length-(k+1))+1 by omega,List.replicate_succ,List.set_cons_zero];simp[List.getD_eq_getElem?_getD,List.getElem?_eq_getElem d]
theorem QL(n:Nat)(g:n<=1048576)(wx:World):(Instr.makeSlice 260 (.int .i64 (n:Int)) (.int .i64 (n:Int))).run Tryz.prog wx=.ok (.slice (some ⟨wx.heap.size,0,none⟩) n n) (wx.alloc (.cells (madeCells #[.slice none 0 0] n) 40)):=by
 obtain⟨f,a,c,e,d⟩:=info_parts Md;have:=run_make (P:=Tryz.prog) wx 260 40 f (.slice none 0 0) Tryz.underlying260 a c .i64 .i64 (n:Int) (n:Int) (by omega) (Int.le_refl _) (by rw[d];omega) (by omega);rw[e]at this;simpa [Value.cells]using this
theorem QK(w:World)(n:Nat)(a:n<=1048576):
  (w.alloc (.cells (madeCells #[.slice none 0 0] n) 40)).ownsRow w.heap.size 40 1 (.slice (some ⟨w.heap.size,0,none⟩) n n) n (List.replicate n (.slice none 0 0)):=by
 refine⟨by simp,.inr ⟨w.heap.size,n,madeCells #[.slice none 0 0] n,by simp,Nat.le_refl _,heap_alloc_new w _,by simp,by unfold maxLen;omega,by simp[size_madeCells],?_⟩⟩;rw[toList_madeCells_one,List.take_of_length_le (by simp)]
end Go.Proofs.YtfpmnekaockodaaGreatDoor
namespace Go.Proofs.YtfpmnekaockodaaGreatDoor.Ech
variable {B ks:List Nat}{b r x W:Nat}
def Tri(B:List Nat):Prop:=(∀b∈B,b≠0)/\B.Pairwise fun a b=>b.testBit (low a)=false
theorem Tri.nil:Tri []:=⟨(fun _ h=>by cases h),List.Pairwise.nil⟩
theorem Tri.tail(h:Tri (b::B)):Tri B:=⟨fun a c=>h.1 a (List.mem_cons_of_mem _ c),(List.pairwise_cons.1 h.2).2⟩
theorem Tri.head(h:Tri (b::B)):∀a∈B,a.testBit (low b)=false:=(List.pairwise_cons.1 h.2).1
theorem Tri.snoc(h:Tri B)(f:r≠0)(e:∀b∈B,r.testBit (low b)=false):Tri (B++[r]):=by
 refine⟨fun a c=>?_,List.pairwise_append.2 ⟨h.2,by simp,fun a c b d=>?_⟩⟩
 ·rcases List.mem_append.1 c with c|c
  ·exact h.1 a c
  ·rw[List.mem_singleton.1 c];exact f
 ·rw[List.mem_singleton.1 d];exact e a c
theorem bV(h:Sp [] x):x=0:=Sp.ind (B:=[]) (P:=fun x=>x=0) rfl (fun b x a _=>by cases a) h
theorem Y8(h:Sp (b::B) x):Sp B x\/Sp B (b^^^x):=by
 refine Sp.ind (P:=fun x=>Sp B x\/Sp B (b^^^x)) (.inl .zero) (fun c x d a=>?_) h;rcases List.mem_cons.1 d with e|d
 ·subst e
  rcases a with a|a
  ·right
   rw[<-Nat.xor_assoc,Nat.xor_self,Nat.zero_xor];exact a
  ·exact .inl a
 ·rcases a with a|a
  ·exact .inl (.add d a)
  ·right
   rw[PL];exact .add d a
theorem QA{i:Nat}(h:∀b∈B,b.testBit i=false)(k:Sp B x):x.testBit i=false:=by
 refine Sp.ind (P:=fun x=>x.testBit i=false) (Nat.zero_testBit _) (fun b x a c=>?_) k;rw[Nat.testBit_xor,h b a,c];rfl
theorem MH:∀{B:List Nat},Tri B->∀{x:Nat},Sp B x->(∀b∈B,x.testBit (low b)=false)->x=0
 |[],_,x,k,_=>bV k
 |b::B,h,x,k,e=>by
  rcases Y8 k with c|c
  ·exact MH h.tail c fun a f=>e a (List.mem_cons_of_mem _ f)
  ·have d:=QA h.head c
   rw[Nat.testBit_xor,low_bit (h.1 b List.mem_cons_self),e b List.mem_cons_self]at d;cases d
theorem K9:∀{B:List Nat},Tri B->∀v:Nat,(∀b∈B,(red B v).testBit (low b)=false)/\Sp B (v^^^red B v)
 |[],_,v=>⟨(fun _ h=>by cases h),by show Sp [] (v^^^v);rw[Nat.xor_self];exact .zero⟩
 |b::B,h,v=>by
  have i:=h.1 b List.mem_cons_self
  have d:∀v':Nat,v'.testBit (low b)=false->Sp (b::B) (v^^^v')->(∀a∈b::B,(red B v').testBit (low a)=false)/\Sp (b::B) (v^^^red B v'):=fun v' l m=>by
   obtain⟨o,j⟩:=K9 h.tail v';have g:=QA h.head j;rw[Nat.testBit_xor,l]at g;refine⟨fun a c=>?_,?_⟩
   ·rcases List.mem_cons.1 c with e|c
    ·rw[e];simpa using g
    ·exact o a c
   ·have:=m.xor (j.mono fun a c=>List.mem_cons_of_mem _ c)
    rwa[Nat.xor_assoc,<-Nat.xor_assoc v' v',Nat.xor_self,Nat.zero_xor]at this
  show(∀a∈b::B,(red B (if b≠0/\v.testBit (low b)=true then v^^^b else v)).testBit (low a)=false)/\Sp (b::B) (v^^^red B (if b≠0/\v.testBit (low b)=true then v^^^b else v));by_cases f:v.testBit (low b)=true
  ·rw[if_pos ⟨i,f⟩]
   refine d _ (by rw[Nat.testBit_xor,f,low_bit i];rfl) ?_;rw[<-Nat.xor_assoc,Nat.xor_self,Nat.zero_xor];exact .of_mem List.mem_cons_self
  ·rw[if_neg (fun k=>f k.2)]
   refine d _ (by simpa using f) ?_;rw[Nat.xor_self];exact .zero
theorem PT{v:Nat}(h:Sp B (v^^^r))(k:Sp B v):Sp B r:=by
 have:=k.xor h;rwa[<-Nat.xor_assoc,Nat.xor_self,Nat.zero_xor]at this
theorem tri_zero(h:Tri B)(v:Nat):red B v=0↔Sp B v:=by
 obtain⟨c,a⟩:=K9 h v;constructor
 ·intro e
  rw[e,Nat.xor_zero]at a;exact a
 ·intro k
  exact MH h (PT a k) c
def addT(B:List Nat)(v:Nat):List Nat:=if red B v=0 then B else B++[red B v]
theorem Tri.addT(h:Tri B)(v:Nat):Tri (addT B v):=by
 unfold Ech.addT;split
 ·exact h
 ·rename_i a;exact h.snoc a (K9 h v).1
theorem PQ(h:Tri B)(v x:Nat):Sp (addT B v) x↔Sp (B++[v]) x:=by
 have d:=(K9 h v).2;unfold addT;split
 ·rename_i e
  have f:=(tri_zero h v).1 e;refine⟨fun k=>k.mono fun a c=>List.mem_append_left _ c,fun k=>k.of fun a c=>?_⟩;rcases List.mem_append.1 c with c|c
  ·exact .of_mem c
  ·rw[List.mem_singleton.1 c];exact f
 ·constructor
  ·intro k
   refine k.of fun a c=>?_;rcases List.mem_append.1 c with c|c
   ·exact .of_mem (List.mem_append_left _ c)
   ·rw[List.mem_singleton.1 c]
    exact PT (d.mono fun a c=>List.mem_append_left _ c) (.of_mem (by simp))
  ·intro k
   refine k.of fun a c=>?_;rcases List.mem_append.1 c with c|c
   ·exact .of_mem (List.mem_append_left _ c)
   ·rw[List.mem_singleton.1 c]
    refine PT (v:=red B v) ?_ (.of_mem (by simp));rw[Nat.xor_comm];exact d.mono fun a c=>List.mem_append_left _ c
theorem foldl_addT:∀(l B:List Nat),Tri B->Tri (l.foldl addT B)/\∀x,Sp (l.foldl addT B) x↔Sp (B++l) x
 |[],B,h=>⟨h,fun x=>by simp⟩
 |v::l,B,h=>by
  obtain⟨g,i⟩:=foldl_addT l (addT B v) (h.addT v);refine⟨g,fun x=>?_⟩;show Sp (l.foldl addT (addT B v)) x↔_;rw[i];constructor
  ·intro k
   refine k.of fun a d=>?_;rcases List.mem_append.1 d with d|d
   ·exact((PQ h v a).1 (.of_mem d)).mono fun c f=>by
     rcases List.mem_append.1 f with f|f
     ·simp[f]
     ·rw[List.mem_singleton.1 f];simp
   ·exact .of_mem (by simp[d])
  ·intro k
   refine k.of fun a d=>?_;rcases List.mem_append.1 d with d|d
   ·exact((PQ h v a).2 (.of_mem (by simp[d]))).mono fun c f=>List.mem_append_left _ f
   ·rcases List.mem_cons.1 d with e|d
    ·rw[e]
     exact((PQ h v v).2 (.of_mem (by simp))).mono fun c f=>List.mem_append_left _ f
    ·exact .of_mem (List.mem_append_right _ d)
def lin(ks:List Nat)(c:Nat):Nat->Nat
 |0=>0
 |n+1=>lin ks c n^^^(if c.testBit n=true then ks.getD n 0 else 0)
theorem Vo{ks ks':List Nat}(c:Nat):∀n,(∀i,i<n->ks.getD i 0=ks'.getD i 0)->lin ks c n=lin ks' c n
 |0,_=>rfl
 |n+1,h=>by simp only[lin];rw[Vo c n fun i a=>h i (by omega),h n (by omega)]
theorem Qa(ks:List Nat)(c d:Nat):∀n,lin ks (c^^^d) n=lin ks c n^^^lin ks d n
 |0=>by simp[lin]
 |n+1=>by
  simp only[lin,Nat.testBit_xor,Qa ks c d n];generalize lin ks c n=x;generalize lin ks d n=y;generalize ks.getD n 0=z;apply Nat.eq_of_testBit_eq;intro i;cases c.testBit n<;>cases d.testBit n<;>simp[Nat.testBit_xor]<;>cases x.testBit i<;>cases y.testBit i<;>cases z.testBit i<;>rfl
theorem Vr(ks:List Nat):∀n,lin ks 0 n=0
 |0=>rfl
 |n+1=>by simp[lin,Vr ks n]
theorem Vq(ks:List Nat)(j:Nat):∀n,lin ks (2^j) n=if j<n then ks.getD j 0 else 0
 |0=>by simp[lin]
 |n+1=>by
  simp only[lin];rw[Vq ks j n,Nat.testBit_two_pow];by_cases c:j<n
  ·have a:decide (j=n)=false:=by simp;omega
   rw[if_pos c,if_pos (show j<n+1 by omega),a,if_neg (by decide),Nat.xor_zero]
  ·rw[if_neg c]
   by_cases d:j=n
   ·subst d
    rw[if_pos (show j<j+1 by omega),decide_eq_true rfl,if_pos rfl,Nat.zero_xor]
   ·have a:decide (j=n)=false:=by simpa using d
    rw[if_neg (show¬j<n+1 by omega),a,if_neg (by decide),Nat.xor_zero]
theorem Na(ks:List Nat)(c:Nat):∀n,n<=ks.length->Sp ks (lin ks c n)
 |0,_=>.zero
 |n+1,h=>by
  simp only[lin];refine(Na ks c n (by omega)).xor ?_;split
  ·refine .of_mem ?_
   rw[List.getD_eq_getElem?_getD,List.getElem?_eq_getElem (show n<ks.length by omega)];exact List.getElem_mem _
  ·exact .zero
theorem lin_of_sp(h:Sp ks x):∃c,c<2^ks.length/\lin ks c ks.length=x:=by
 refine Sp.ind (P:=fun x=> ∃c,c<2^ks.length/\lin ks c ks.length=x) ⟨0,Nat.two_pow_pos _,Vr _ _⟩ (fun b x d f=>?_) h;obtain⟨c,e,rfl⟩:=f;obtain⟨j,a,rfl⟩:=List.getElem_of_mem d;refine⟨2^j^^^c,Nat.xor_lt_two_pow (Nat.pow_lt_pow_right (by decide) a) e,?_⟩;rw[Qa,Vq,if_pos a,List.getD_eq_getElem?_getD,List.getElem?_eq_getElem a];rfl
def Ind(ks:List Nat):Prop:=∀c,c<2^ks.length->lin ks c ks.length=0->c=0
theorem Ind.nil:Ind []:=fun c a _=>by simp at a;exact a
theorem lS{c n:Nat}(h:c<2^(n+1))(d:c.testBit n=false):c<2^n:=by
 rw[Nat.pow_succ]at h;rw[Nat.testBit_eq_decide_div_mod_eq]at d;have e:c/2^n<2:=Nat.div_lt_of_lt_mul h;have f:c/2^n=0:=by
  have a:¬c/2^n%2=1:=of_decide_eq_false d;generalize c/2^n=q at*;omega
 rcases Nat.lt_or_ge c (2^n)with a|a
 ·exact a
 ·have:=Nat.div_pos a (Nat.two_pow_pos n);omega
theorem Ind.snoc(h:Ind ks)(j:¬Sp ks r):Ind (ks++[r]):=by
 intro c f a;rw[List.length_append,List.length_singleton]at f a;simp only[lin]at a;rw[Vo (ks':=ks) c ks.length fun i g=>by rw[List.getD_eq_getElem?_getD,List.getElem?_append_left g,<-List.getD_eq_getElem?_getD]]at a;have e:(ks++[r]).getD ks.length 0=r:=by simp[List.getD_eq_getElem?_getD]
 rw[e]at a;by_cases d:c.testBit ks.length=true
 ·rw[if_pos d]at a
  exact absurd (by rw[<-eq_of_xor a];exact Na ks c ks.length (Nat.le_refl _)) j
 ·rw[if_neg d,Nat.xor_zero]at a
  exact h c (lS f (by simpa using d)) a
theorem Ind.uniq(h:Ind ks){c d:Nat}(a:c<2^ks.length)(f:d<2^ks.length)(e:lin ks c ks.length=lin ks d ks.length):c=d:=by
 apply eq_of_xor;refine h _ (Nat.xor_lt_two_pow a f) ?_;rw[Qa,e,Nat.xor_self]
theorem low_lt{d:Nat}(c:d≠0)(h:d<2^W):low d<W:=by
 rcases Nat.lt_or_ge (low d) W with a|a
 ·exact a
 ·have e:d<2^low d:=Nat.lt_of_lt_of_le h (Nat.pow_le_pow_right (by decide) a)
  have:=low_bit c;rw[Nat.testBit_lt_two_pow e]at this;cases this
theorem UJ{c i:Nat}(h:i<W):(c<<<W).testBit i=false:=by
 rw[Nat.testBit_shiftLeft];simp;omega
theorem shift_high(c W i:Nat):(c<<<W).testBit (W+i)=c.testBit i:=by
 rw[Nat.testBit_shiftLeft];simp
theorem Vp{ks R:List Nat}{P:Nat->Nat}{W:Nat}(a:∀x y,P (x^^^y)=P x^^^P y)(c:Nat):
  ∀n,(∀i,i<n->R.getD i 0=P (ks.getD i 0)^^^2^(W+i))->lin R c n=P (lin ks c n)^^^((c%2^n)<<<W)
 |0,_=>by
  have e:P 0=0:=by have:=a 0 0;simpa using this
  simp[lin,e,Nat.mod_one]
 |n+1,h=>by
  have e:P 0=0:=by have:=a 0 0;simpa using this
  simp only[lin];rw[Vp a c n fun i p=>h i (by omega),h n (by omega),a];have m:(c%2^(n+1))<<<W=((c%2^n)<<<W)^^^(if c.testBit n=true then 2^(W+n)else 0):=by
   apply Nat.eq_of_testBit_eq;intro i;rw[Nat.testBit_xor,Nat.testBit_shiftLeft,Nat.testBit_shiftLeft,Nat.testBit_mod_two_pow,Nat.testBit_mod_two_pow];by_cases o:i<W
   ·have:decide (i≥W)=false:=by simp;omega
    rw[this];split
    ·rw[Nat.testBit_two_pow];simp;omega
    ·simp
   ·obtain⟨j,rfl⟩:∃j,i=W+j:=⟨i-W,by omega⟩
    rw[Nat.add_sub_cancel_left];have:decide (W+j≥W)=true:=by simp
    rw[this];by_cases f:j=n
    ·subst f
     split<;>rename_i d<;>simp[d]
    ·have g:(2^(W+n)).testBit (W+j)=false:=by rw[Nat.testBit_two_pow];simp;omega
     have k:decide (j<n+1)=decide (j<n):=by by_cases l:j<n<;>simp[l]<;>omega
     rw[k];split
     ·rw[g];simp
     ·simp
  rw[m];by_cases d:c.testBit n=true
  ·simp only[d,if_true]
   generalize P (lin ks c n)=x;generalize P (ks.getD n 0)=y;generalize (c%2^n)<<<W=z;generalize 2^(W+n)=u;apply Nat.eq_of_testBit_eq;intro i;simp only[Nat.testBit_xor];cases x.testBit i<;>cases y.testBit i<;>cases z.testBit i<;>cases u.testBit i<;>rfl
  ·simp[d,e]
theorem mark_red{R:List Nat}{P:Nat->Nat}(D:∀x y,P (x^^^y)=P x^^^P y)(z:∀x,Sp ks x->P x<2^W)(j:∀x,Sp ks x->P x=0->x=0)(C:Ind ks)
  (E:R.length=ks.length) (s:∀i,i<ks.length->R.getD i 0=P (ks.getD i 0)^^^2^(W+i)) (q:Tri B) (A:∀x,Sp B x↔Sp R x) {c:Nat} (H:c<2^ks.length):
  red B (P (lin ks c ks.length))=c<<<W:=by
 have a:=fun d=>Vp (ks:=ks) (R:=R) (W:=W) D d ks.length s
 have f:∀b∈B,low b<W:=fun b h=>by
  obtain⟨d,u,g⟩:=lin_of_sp ((A b).1 (.of_mem h));rw[E]at u g;rw[a d,Nat.mod_eq_of_lt u]at g;have l:=Na ks d ks.length (Nat.le_refl _)
  have k:P (lin ks d ks.length)≠0:=fun e=>by
   have o:=C d u (j _ l e);subst o;rw[e]at g;simp at g;exact q.1 b h g.symm
  have m:=low_lt k (z _ l);have p:b.testBit (low (P (lin ks d ks.length)))=true:=by rw[<-g,Nat.testBit_xor,low_bit k,UJ m];rfl
  exact Nat.lt_of_le_of_lt (QI p) m
 obtain⟨o,m⟩:=K9 q (P (lin ks c ks.length));have p:Sp B (P (lin ks c ks.length)^^^c<<<W):=by
  refine(A _).2 ?_;have:=a c;rw[Nat.mod_eq_of_lt H]at this;rw[<-this];exact Na R c ks.length (by omega)
 apply eq_of_xor;refine MH q ?_ fun b h=>?_
 ·have:=m.xor p
  rwa[SX]at this
 ·rw[Nat.testBit_xor,o b h,UJ (f b h)];rfl
def proj(fs:List Nat)(x:Nat):Nat->Nat
 |0=>0
 |n+1=>proj fs x n^^^(if x.testBit (fs.getD n 0)=true then 2^n else 0)
theorem proj_bit(fs:List Nat)(x j:Nat):∀n,(proj fs x n).testBit j=(decide (j<n)&&x.testBit (fs.getD j 0))
 |0=>by simp[proj]
 |n+1=>by
  simp only[proj];rw[Nat.testBit_xor,proj_bit fs x j n];by_cases e:j=n
  ·subst e
   have d:decide (j<j)=false:=by simp
   have a:decide (j<j+1)=true:=by simp
   rw[d,a];generalize x.testBit (fs.getD j 0)=c;cases c<;>simp
  ·have a:decide (j<n+1)=decide (j<n):=by by_cases f:j<n<;>simp[f]<;>omega
   rw[a];split
   ·rw[Nat.testBit_two_pow]
    have:decide (n=j)=false:=by simp;omega
    rw[this];simp
   ·simp
theorem proj_xor(fs:List Nat)(n x y:Nat):proj fs (x^^^y) n=proj fs x n^^^proj fs y n:=by
 apply Nat.eq_of_testBit_eq;intro j;rw[Nat.testBit_xor,proj_bit,proj_bit,proj_bit,Nat.testBit_xor];cases decide (j<n)<;>cases x.testBit (fs.getD j 0)<;>cases y.testBit (fs.getD j 0)<;>rfl
theorem proj_lt(fs:List Nat)(x n:Nat):proj fs x n<2^n:=by
 apply Nat.lt_pow_two_of_testBit;intro j a;rw[proj_bit];simp;omega
theorem proj_inj(d:Tri B){fs:List Nat}(f:fs=B.map low){x:Nat}(g:Sp B x)(h:proj fs x B.length=0):x=0:=by
 refine MH d g fun b e=>?_;obtain⟨j,c,rfl⟩:=List.getElem_of_mem e;have a:=proj_bit fs x j B.length;rw[h,f]at a;simpa [c,List.getD_eq_getElem?_getD,List.getElem?_eq_getElem c]using a.symm
end Go.Proofs.YtfpmnekaockodaaGreatDoor.Ech
