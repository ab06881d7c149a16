/-
  Packets' fingerprints and what a cache keeps, as data ('prD', 'hasD', 'freshD', 'seenL', 'cameL'); a map from fingerprints to the order in which they came ('MpL'); a cache in memory ('CaAt'). No condition.
  Slices of packets of one's own ('OwnP'), and 'append' of one packet.
  Plain mathematics of a buffer: packets as data ('PD'), what a put makes of them ('bput'), which one goes ('goesTo'), what always holds ('BInv'), that none is made by the others ('FreeD'). No condition.
  The buffer in memory ('BfAt'); packets whose words are one's own ('OwnKs'); slices of packets that are made and filled. No condition.
  Contracts of buffer.New, Len, Clear, copyOf, objectOf, rows, degrees.
-/
import Derived.Test.YtlhhinlghhjghaaGreatDoorU20
import Derived.Test.YtlhhinlghhjghaaGreatDoorU15
import Derived.Test.YtlhhinlghhjghaaGreatDoorU18
import Derived.Test.YtlhhinlghhjghaaGreatDoorU13
import Derived.Maps.RangeWalk
import Derived.Maps.OwnSet
import Derived.Maps.OwnOps
import Derived.Test.YtlhhinlghhjghaaGreatDoorU14
import Derived.Deep.AppendLies
import Derived.OwnWalk
import Derived.Test.YtlhhinlghhjghaaGreatDoorU12
import Derived.Test.YtlhhinlghhjghaaGreatDoorU11
import Derived.Test.YtlhhinlghhjghaaGreatDoorU16
import Derived.Deep.RegionHeld3
import Derived.BigQuiet
namespace Go.Proofs.YtlhhinlghhjghaaGreatDoor
open Go.RowKit Go.Sort Go.Maps
set_option linter.unusedVariables false
set_option linter.unusedSimpArgs false
set_option maxRecDepth 4000
set_option maxHeartbeats 8000000
variable {D:DataW Unit}{L:List Nat}{x b n g m N:Nat}{w w':World}
def prD(p:PD):Nat:=if okD p=true then sumN (encL p.o p.l p.k p.z 0 p.xs (tx p.s))else 0
theorem Zzk{p:PD}(h:okD p=true):prD p=sumN (encL p.o p.l p.k p.z 0 p.xs (tx p.s)):=if_pos h
theorem ZAP{p:PD}(h:okD p=false):prD p=0:=if_neg (by rw[h];decide)
theorem Zyk(p:PD):prD p<4294967296:=by
 unfold prD
 split
 ·exact ZqX (ZcU _ _ _ _ _ _ _ (Zal _))
 ·decide
def hasD(L:List Nat)(x:Nat):Bool:=L.contains x
theorem Znw:hasD L x=true↔x∈L:=by simp[hasD]
theorem Zjp:hasD L x=false↔x∉L:=by rw[←Znw];simp
def Zbx(L:List Nat)(p:PD):Bool:=okD p&& !hasD L (prD p)
def ZhS(m:Nat)(L:List Nat)(x:Nat):List Nat:=if m=0 then L else if L.length=m then L.tail++[x]else L++[x]
def Zgi(m:Nat)(L:List Nat)(p:PD):List Nat:=if Zbx L p=true then ZhS m L (prD p)else L
theorem ZrB{a:Nat}(h:(.int .u32 (a:Int):Lit)=.int .u32 (b:Int)):a=b:=by
 simp only[Lit.int.injEq,true_and]at h
 omega
theorem Zmn(a:Nat):WideAt.IsKeyLit (.int .u32 (a:Int)):=trivial
theorem ZBc(a b:Nat):(Lit.int .u32 (a:Int)).sameKey (.int .u32 (b:Int))=decide (a=b):=by
 by_cases e:a=b
 ·subst e;rw[WideAt.sameKey_self (Zmn a)];simp
 ·rw[sameKey_ne (fun h=>e (ZrB h))];simp[e]
structure MpL(D:DataW Unit)(nx:Nat)(es:List (Nat×Nat)):Prop where
 has:∀x:Nat,Maps.has D (.int .u32 (x:Int))=hasD (es.map Prod.fst) x
 at':∀p∈es,∀z,D.atKey (.int .u32 (p.1:Int)) z=.lit (.int .i64 (p.2:Int))
 size:Maps.size D=es.length
 rise:es.Pairwise fun p q=>p.2<q.2
 two:es.Pairwise fun p q=>p.1≠q.1
 low:∀p∈es,p.2<nx
theorem MpL.empty:MpL (.map []) 0 []:=
 ⟨fun x=>rfl,fun p h=>(by cases h),rfl,List.Pairwise.nil,List.Pairwise.nil,fun p h=>(by cases h)⟩
theorem MpL.put{nx:Nat}{es:List (Nat×Nat)}(h:MpL D nx es)(hT:Tidy D){x:Nat}(hx:x∉es.map Prod.fst):
  MpL (D.put (.int .u32 (x:Int)) (.lit (.int .i64 (nx:Int)))) (nx+1) (es++[(x,nx)]):=by
 have hh:Maps.has D (.int .u32 (x:Int))=false:=by rw[h.has,Zjp];exact hx
 refine⟨fun y=>?_,fun p hp z=>?_,?_,?_,?_,fun p hp=>?_⟩
 ·by_cases e:y=x
  ·subst e
   rw[has_put_same hT.isMap (Zmn y)]
   simp[hasD]
  ·rw[has_put_other (fun he=>e (ZrB he)),h.has]
   simp[hasD,e]
 ·rw[List.mem_append,List.mem_singleton]at hp
  rcases hp with hp|rfl
  ·have:p.1≠x:=fun e=>hx (List.mem_map.2 ⟨p,hp,e⟩)
   rw[atKey_put_other (fun he=>this (ZrB he))]
   exact h.at' p hp z
  ·exact atKey_put_same hT.isMap (Zmn x) _ z
 ·rw[size_put hT,hh,h.size];simp
 ·rw[List.pairwise_append]
  exact⟨h.rise,List.pairwise_singleton _ _,fun p hp q hq=>by rw[List.mem_singleton]at hq;subst hq;exact h.low p hp⟩
 ·rw[List.pairwise_append]
  exact⟨h.two,List.pairwise_singleton _ _,fun p hp q hq=>by rw[List.mem_singleton]at hq;subst hq;exact fun e=>hx (List.mem_map.2 ⟨p,hp,e⟩)⟩
 ·rw[List.mem_append,List.mem_singleton]at hp
  rcases hp with hp|rfl
  ·have:=h.low p hp;omega
  ·show nx<nx+1;omega
theorem MpL.del{nx k s:Nat}{es:List (Nat×Nat)}(h:MpL D nx ((k,s)::es))(hT:Tidy D):MpL (D.del (.int .u32 (k:Int))) nx es:=by
 have hr:=List.pairwise_cons.1 h.rise
 have ht:=List.pairwise_cons.1 h.two
 have hk:k∉es.map Prod.fst:=fun hm=>by
  obtain⟨p,hp,e⟩:=List.mem_map.1 hm
  exact ht.1 p hp e.symm
 have hh:Maps.has D (.int .u32 (k:Int))=true:=by rw[h.has];simp[hasD]
 refine⟨fun y=>?_,fun p hp z=>?_,?_,hr.2,ht.2,fun p hp=>h.low p (List.mem_cons_of_mem _ hp)⟩
 ·by_cases e:y=k
  ·subst e
   rw[has_del_same]
   exact(Zjp.2 hk).symm
  ·rw[has_del_other (fun he=>e (ZrB he)),h.has]
   simp[hasD,e]
 ·have:p.1≠k:=fun e=>hk (List.mem_map.2 ⟨p,hp,e⟩)
  rw[atKey_del_other (fun he=>this (ZrB he))]
  exact h.at' p (List.mem_cons_of_mem _ hp) z
 ·have:=size_del (k:=.int .u32 (k:Int)) hT
  rw[hh,h.size]at this
  simp only[if_true,List.length_cons]at this
  omega
theorem ZpO:Keyed Tryz.prog 95:=int_keyed Tryz.underlying95
theorem ZAR(w:World):(zeroValue 3).run Tryz.prog w=.ok (.int .i64 0) w:=by kernel_rfl
theorem Zz6(h:x<4294967296):keyOf Tryz.prog 95 (.int .u32 (x:Int))=some (.int .u32 (x:Int)):=keyOf_int_mk Tryz.underlying95 (WalkArith.wf_u32 (by omega))
def OwnM(w:World)(b n:Nat)(D:DataW Unit):Prop:=w.ownsMap Tryz.prog 95 (plainElem Tryz.prog 3) b n D
theorem OwnM.lt(h:OwnM w b n D):b<w.heap.size:=World.ownsMap.lt h
theorem OwnM.tu{F:Nat→Prop}(h:OwnM w b n D)(ht:Tu F w w')(hb:¬F b):OwnM w' b n D:=by
 have hl:=h.lt
 obtain⟨es,clock,hk,r⟩:=h
 exact⟨es,clock,(ht.block b hl hb).trans hk,r⟩
theorem OwnM.exact(h:OwnM w b n D):OwnM w b (Maps.size D) D:=by
 obtain⟨es,clock,hk,F,hs,rfl⟩:=h
 exact⟨es,clock,hk,F,by simp[Maps.size,length_sorted],rfl⟩
theorem OwnM.tidy(h:OwnM w b n D):Tidy D:=World.ownsMap.tidy h ZpO
theorem Zr1(h:w.mapTurned w' b):Tu (fun j=>j=b) w w':=Tu.of_gb h.grown fun j _ e=>(Option.some.inj e).symm
theorem OwnM.nocells(h:OwnM w b n D)(cur:Array Value)(t:TypeId)(m:Nat×Nat):w.heap[b]? ≠some (.cells cur t m):=by
 obtain⟨es,clock,hk,_⟩:=h
 rw[hk]
 intro e
 cases e
structure CaAt(w:World)(g b m N:Nat)(L:List Nat):Prop where
 it:∃nx es D,nx≤N∧BkA 226 w g [.int .i64 (m:Int),.map (some b),.int .i64 (nx:Int)]∧OwnM w b L.length D∧MpL D nx es∧L=es.map Prod.fst
 len:L.length≤m
 most:m≤256
def caF(g b:Nat)(j:Nat):Prop:=j=g∨j=b
theorem CaAt.lt(h:CaAt w g b m N L):g<w.heap.size∧b<w.heap.size:=by
 obtain⟨nx,es,D,_,hb,ho,_⟩:=h.it
 exact⟨hb.lt,ho.lt⟩
theorem CaAt.tu{F:Nat→Prop}(h:CaAt w g b m N L)(ht:Tu F w w')(hg:¬F g)(hb:¬F b):CaAt w' g b m N L:=by
 obtain⟨nx,es,D,hn,hk,ho,r⟩:=h.it
 exact⟨⟨nx,es,D,hn,hk.tu ht hg,ho.tu ht hb,r⟩,h.len,h.most⟩
theorem CaAt.below(h:CaAt w g b m N L)(hb:Below w.heap.size w w'):CaAt w' g b m N L:=h.tu (F:=fun _=>False) (Tu.of_below hb) id id
theorem CaAt.mono{N':Nat}(h:CaAt w g b m N L)(hN:N≤N'):CaAt w g b m N' L:=by
 obtain⟨nx,es,D,hn,r⟩:=h.it
 exact⟨⟨nx,es,D,Nat.le_trans hn hN,r⟩,h.len,h.most⟩
end Go.Proofs.YtlhhinlghhjghaaGreatDoor
namespace Go.Proofs.YtlhhinlghhjghaaGreatDoor
open Go.RowKit Go.Sort
set_option linter.unusedVariables false
set_option linter.unusedSimpArgs false
set_option maxRecDepth 4000
set_option maxHeartbeats 8000000
variable {L:List PD}{B g n m B':Nat}{F:Nat→Prop}{v v1:Value}{w w' w1:World}
theorem ZeO:(Tryz.prog.info? 59).map (fun i=>(i.zero,i.size,i.bytes))=some (some (.agg #[.int .i64 0,.int .i64 0,.int .i64 0,.int .i64 0,.int .i64 0,.slice none 0 0,.string ⟨#[]⟩]),7,80):=by kernel_rfl
def PKV.cells(p:PKV):List Value:=[.int .i64 p.o,.int .i64 p.l,.int .i64 p.k,.int .i64 p.z,.int .i64 p.h,.slice p.r.a p.r.n p.r.c,.string p.r.s]
def cellsK(ps:List PKV):List Value:=ps.flatMap PKV.cells
theorem ZaJ:∀ps:List PKV,(cellsK ps).length=ps.length*7
 |[]=>rfl
 |p::ps=>by
  show(p.cells++cellsK ps).length=_
  rw[List.length_append,ZaJ ps,List.length_cons,Nat.add_mul,Nat.one_mul,Nat.add_comm]
  rfl
theorem ZbI(a b:List PKV):cellsK (a++b)=cellsK a++cellsK b:=List.flatMap_append
theorem Zfu:∀(ps:List PKV) (i j:Nat),i<ps.length→j<7→(cellsK ps)[i*7+j]? =(ps.getD i .dflt).cells[j]?
 |[],i,j,h,_=>by simp at h
 |p::ps,0,j,_,hj=>by
  show(p.cells++cellsK ps)[0*7+j]? =_
  rw[Nat.zero_mul,Nat.zero_add,List.getElem?_append_left (by show j<7;exact hj)]
  rfl
 |p::ps,i+1,j,h,hj=>by
  have:=Zfu ps i j (by simpa using h) hj
  show(p.cells++cellsK ps)[(i+1)*7+j]? =_
  rw[List.getElem?_append_right (by show 7≤_;omega),show(i+1)*7+j-p.cells.length=i*7+j from by show(i+1)*7+j-7=_;omega,this]
  rfl
theorem Zd7(p:PKV):∀u∈p.cells,u.oneCell'=true:=fun u hu=>by
 unfold PKV.cells at hu
 simp only[List.mem_cons,List.not_mem_nil,or_false]at hu
 rcases hu with h|h|h|h|h|h|h<;>(rw[h];rfl)
theorem ZpW(ps:List PKV):∀u∈cellsK ps,u.oneCell'=true:=fun u hu=>by
 obtain⟨p,_,hp⟩:=List.mem_flatMap.1 hu
 exact Zd7 p u hp
def KsIn(w:World)(ps:List PKV):Prop:=∀p∈ps,RowAt w p.r.a p.r.n p.r.xs∧p.r.n≤p.r.c
theorem KsIn.below{ps:List PKV}(h:KsIn w ps)(hb:Below w.heap.size w w'):KsIn w' ps:=fun p hp=>⟨(h p hp).1.below hb,(h p hp).2⟩
theorem KsIn.get{ps:List PKV}(h:KsIn w ps){i:Nat}(hi:i<ps.length):RowAt w (ps.getD i .dflt).r.a (ps.getD i .dflt).r.n (ps.getD i .dflt).r.xs∧(ps.getD i .dflt).r.n≤(ps.getD i .dflt).r.c:=by
 have:=h ps[i] (List.getElem_mem hi)
 rwa[List.getD_eq_getElem?_getD,List.getElem?_eq_getElem hi]
theorem KsIn.sub{a b:List PKV}(h:KsIn w b)(hs:∀p∈a,p∈b):KsIn w a:=fun p hp=>h p (hs p hp)
def OwnP(w:World)(B:Nat)(v:Value)(ps:List PKV):Prop:=w.ownsRow B 59 7 v ps.length (cellsK ps)
theorem OwnP.nil(w:World)(B:Nat):OwnP w B (.slice none 0 0) []:=World.ownsRow_nil _ _ _ _
theorem OwnP.cellAt{c:Nat}{ps:List PKV}(h:OwnP w B (.slice (some ⟨g,0,none⟩) n c) ps){j:Nat}{u:Value}(hu:(cellsK ps)[j]? =some u):w.cell? ⟨g,j,none⟩=some u:=by
 have:=World.ownsRow.cells h (g:=g) rfl j u hu
 rwa[show(⟨g,0,none⟩:Addr).add j=⟨g,j,none⟩ by unfold Addr.add;split<;>simp_all]at this
theorem OwnP.pks{ps:List PKV}(h:OwnP w B v ps)(hr:KsIn w ps):∃a c,v=.slice a ps.length c∧PksAt w a ps.length ps∧ps.length≤c∧c≤9223372036854775807:=by
 have h':=h
 rcases h.2 with⟨rfl,h0⟩|⟨g,cap,cur,rfl,hb,hg,hn,hm,hsz,ht⟩
 ·exact⟨none,0,by rw[h0],⟨rfl,fun i hi=>by omega,.inl h0⟩,by omega,by omega⟩
 ·refine⟨_,cap,rfl,⟨rfl,fun i hi=>(hr.get hi).1,.inr ⟨g,0,rfl,fun i hi=>?_⟩⟩,hn,by simpa [maxLen]using hm⟩
  have hc:∀j,j<7→∀u,(ps.getD i .dflt).cells[j]? =some u→w.cell? ⟨g,i*7+j,none⟩=some u:=fun j hj u hu=>h'.cellAt (by rw[Zfu ps i j hi hj];exact hu)
  rw[Nat.zero_add]
  exact⟨hc 0 (by decide) _ rfl,hc 1 (by decide) _ rfl,hc 2 (by decide) _ rfl,hc 3 (by decide) _ rfl,hc 4 (by decide) _ rfl,hc 5 (by decide) _ rfl,hc 6 (by decide) _ rfl⟩
theorem OwnP.shape{ps:List PKV}(h:OwnP w B v ps):∃a c,v=.slice a ps.length c:=by
 rcases h.2 with⟨rfl,h0⟩|⟨g,cap,cur,rfl,_⟩
 ·exact⟨none,0,by rw[h0]⟩
 ·exact⟨_,cap,rfl⟩
theorem OwnP.at'{a:Option Addr}{c:Nat}{ps:List PKV}(h:OwnP w B (.slice a m c) ps)(hr:KsIn w ps):PksAt w a m ps∧m=ps.length∧m≤c∧c≤9223372036854775807:=by
 obtain⟨a',c',e,h1,h2,h3⟩:=h.pks hr
 simp only[Value.slice.injEq]at e
 obtain⟨rfl,rfl,rfl⟩:=e
 exact⟨h1,rfl,h2,h3⟩
theorem OwnP.mono{ps:List PKV}(h:OwnP w B v ps)(hB:B'≤B):OwnP w B' v ps:=by
 refine⟨h.1,?_⟩
 rcases h.2 with h0|⟨g,cap,cur,h1,hb,r⟩
 ·exact .inl h0
 ·exact .inr ⟨g,cap,cur,h1,Nat.le_trans hB hb,r⟩
theorem OwnP.below{ps:List PKV}(h:OwnP w B v ps)(hb:Below w.heap.size w w'):OwnP w' B v ps:=by
 refine⟨h.1,?_⟩
 rcases h.2 with h0|⟨g,cap,cur,h1,hg,hgg,r⟩
 ·exact .inl h0
 ·exact .inr ⟨g,cap,cur,h1,hg,(hb.block g (Array.getElem?_eq_some_iff.1 hgg).1).trans hgg,r⟩
theorem OwnP.tu{ps:List PKV}(h:OwnP w B v ps)(ht:Tu F w w')(hF:∀j,v.ownBlock=some j→¬F j):OwnP w' B v ps:=by
 refine⟨h.1,?_⟩
 rcases h.2 with h0|⟨g,cap,cur,h1,hg,hgg,r⟩
 ·exact .inl h0
 ·exact .inr ⟨g,cap,cur,h1,hg,(ht.block g (Array.getElem?_eq_some_iff.1 hgg).1 (hF g (by rw[h1];rfl))).trans hgg,r⟩
theorem OwnP.blk{ps:List PKV}(h:OwnP w B v ps)(hk:v.ownBlock=some g):∃cur,w.heap[g]? =some (.cells cur 59 (0,0)):=by
 rcases h.2 with⟨rfl,_⟩|⟨g',cap,cur,rfl,_,hg,_⟩
 ·cases hk
 ·simp only[Value.ownBlock,Option.some.injEq]at hk
  exact⟨cur,hk▸hg⟩
theorem BkA.neP{T:TypeId}{cs:List Value}{ps:List PKV}(h:BkA T w g cs)(ho:OwnP w B v ps)(hT:T≠59):v.ownBlock≠some g:=fun e=>by
 obtain⟨cur,hc⟩:=ho.blk e
 exact h.ne hc hT rfl
theorem ZdG{ops:Array Oper}{rest:List Oper}{o:Oper}{act:Act}{Q:Exit→Act→World→Prop}(hgd:o.guard=none)(s x:Operand)
  (ho:o.op=.call {callee:=.builtin .append,args:=#[s,x],argTypes:=#[53,53]}) (B:Nat) (v:Value) (ps:List PKV) (p:PKV)
  (hs:act.eval s=v) (hx:act.eval x=.slice (some ⟨w.heap.size,0,none⟩) 1 1) (h:OwnP w B v ps) (hB:B≤w.heap.size) (hn:ps.length≤1000000)
  (hK:∀g cap w',OwnP w' B (.slice (some ⟨g,0,none⟩) (ps.length+1) cap) (ps++[p])→w.grownBy w' v.ownBlock→(v.ownBlock=some g∨w.heap.size≤g)→wpList Tryz.prog ops Q rest (act.put o.dst (.slice (some ⟨g,0,none⟩) (ps.length+1) cap)) w'):
  wpList Tryz.prog ops Q (o::rest) act (w.alloc (.cells #[.int .i64 p.o,.int .i64 p.l,.int .i64 p.k,.int .i64 p.z,.int .i64 p.h,.slice p.r.a p.r.n p.r.c,.string p.r.s] 59)):=by
 obtain⟨i0,hi,hz0,hz1,hz2⟩:=info_parts ZeO
 have hb:Below w.heap.size w (w.alloc (.cells #[.int .i64 p.o,.int .i64 p.l,.int .i64 p.k,.int .i64 p.z,.int .i64 p.h,.slice p.r.a p.r.n p.r.c,.string p.r.s] 59)):=(Below.refl _ _).alloc (Nat.le_refl _) _
 have h1:(w.alloc (.cells #[.int .i64 p.o,.int .i64 p.l,.int .i64 p.k,.int .i64 p.z,.int .i64 p.h,.slice p.r.a p.r.n p.r.c,.string p.r.s] 59)).ownsRow B 59 7 v ps.length (cellsK ps):=h.below hb
 have hbk:(w.alloc (.cells #[.int .i64 p.o,.int .i64 p.l,.int .i64 p.k,.int .i64 p.z,.int .i64 p.h,.slice p.r.a p.r.n p.r.c,.string p.r.s] 59)).heap[w.heap.size]? =some (.cells #[.int .i64 p.o,.int .i64 p.l,.int .i64 p.k,.int .i64 p.z,.int .i64 p.h,.slice p.r.a p.r.n p.r.c,.string p.r.s] 59 (0,0)):=Zag 59 w p.cells
 refine wpList_append_lies _ hgd s x 53 ho B 59 i0 _ 7 80 Tryz.underlying53 hi hz0 hz1 hz2 rfl (by decide) v ps.length (cellsK ps) hs h1 ⟨w.heap.size,0,none⟩ 1 1 p.cells hx rfl
  (World.news_of_block hbk) (Zd7 p) (by decide) (by unfold maxLen;omega) (by omega) (Nat.le_trans hB hb.size) _ rfl (fun g cap w' h2 h3 h4 _=>hK g cap w' ?_ (gb_trans (Zai hb _) h3 (.inl rfl)) (h4.imp id fun e=>by rw[e];exact hb.size))
 show w'.ownsRow B 59 7 _ (ps++[p]).length (cellsK (ps++[p]))
 rw[List.length_append,ZbI,show cellsK [p]=p.cells from List.append_nil _]
 exact h2
def alkH:List PD→PD→Bool
 |[],_=>true
 |q::_,p=>alkD q p
def Zdm(m:Nat)(L:List PD)(p:PD):Bool:=decide (0<m)&&okD p&&alkH L p&&ZdM (vecsD L) p.xs
def degD(L:List PD)(i:Nat):Nat:=cnt (L.getD i .dflt).xs
def goesTo(L:List PD):Nat→Nat
 |0=>0
 |i+1=>if degD L (goesTo L i)<degD L i then i else goesTo L i
theorem ZgX(L:List PD)(i:Nat):goesTo L (i+1)=if degD L (goesTo L i)<degD L i then i else goesTo L i:=rfl
theorem Zda(L:List PD):∀n,0<n→goesTo L n<n∧(∀j,j<n→degD L j≤degD L (goesTo L n))∧∀j,j<goesTo L n→degD L j<degD L (goesTo L n)
 |0,h=>by omega
 |1,_=>by
  have h:goesTo L 1=0:=by rw[ZgX];exact if_neg (Nat.lt_irrefl _)
  rw[h]
  exact⟨by omega,fun j hj=>by rw[show j=0 by omega];exact Nat.le_refl _,fun j hj=>by omega⟩
 |n+2,_=>by
  obtain⟨h1,h2,h3⟩:=Zda L (n+1) (by omega)
  rw[ZgX L (n+1)]
  by_cases h:degD L (goesTo L (n+1))<degD L (n+1)
  ·rw[if_pos h]
   refine⟨by omega,fun j hj=>?_,fun j hj=>Nat.lt_of_le_of_lt (h2 j hj) h⟩
   rcases Nat.lt_or_ge j (n+1)with e|e
   ·exact Nat.le_of_lt (Nat.lt_of_le_of_lt (h2 j e) h)
   ·rw[show j=n+1 by omega];exact Nat.le_refl _
  ·rw[if_neg h]
   refine⟨by omega,fun j hj=>?_,h3⟩
   rcases Nat.lt_or_ge j (n+1)with e|e
   ·exact h2 j e
   ·rw[show j=n+1 by omega];omega
theorem ZhB(hg:g<n)(h1:∀j,j<n→degD L j≤degD L g)(h2:∀j,j<g→degD L j<degD L g):goesTo L n=g:=by
 obtain⟨k1,k2,k3⟩:=Zda L n (by omega)
 have a1:=h1 _ k1
 have a2:=k2 g hg
 rcases Nat.lt_trichotomy (goesTo L n) g with e|e|e
 ·have:=h2 _ e;omega
 ·exact e
 ·have:=k3 _ e;omega
def leftD(m:Nat)(L:List PD):List PD:=if m≤L.length then L.eraseIdx (goesTo L L.length)else L
def bput(m:Nat)(L:List PD)(p:PD):List PD:=if Zdm m L p=true then leftD m L++[p]else L
structure BInv(m:Nat)(L:List PD):Prop where
 le:L.length≤m
 ok:∀p∈L,okD p=true
 alk:∀p∈L,∀q∈L,alkD p q=true
 sm:∀p∈L,smalls p.xs
theorem BInv.nil(m:Nat):BInv m []:=⟨Nat.zero_le _,(fun _ h=>by cases h),(fun _ h=>by cases h),(fun _ h=>by cases h)⟩
theorem BInv.fit(h:BInv m L):Fit 1048576 (vecsD L):=fun v hv=>by
 obtain⟨p,hp,rfl⟩:=List.mem_map.1 hv
 exact⟨h.sm p hp,by have:=ZfM (h.ok p hp);omega⟩
theorem ZbS:∀p∈leftD m L,p∈L:=fun p hp=>by
 unfold leftD at hp
 split at hp
 ·exact List.mem_of_mem_eraseIdx hp
 ·exact hp
theorem ZnM(h:L.length≤m)(hm:0<m):(leftD m L).length+1≤m∧(leftD m L).length≤L.length∧L.length≤(leftD m L).length+1:=by
 unfold leftD
 by_cases e:m≤L.length
 ·rw[if_pos e,List.length_eraseIdx_of_lt (Zda L L.length (by omega)).1]
  omega
 ·rw[if_neg e];omega
theorem ZiJ{p:PD}(h:Zdm m L p=true):0<m∧okD p=true∧alkH L p=true∧ZdM (vecsD L) p.xs=true:=by
 unfold Zdm at h
 rw[Bool.and_eq_true,Bool.and_eq_true,Bool.and_eq_true,decide_eq_true_eq]at h
 exact⟨h.1.1.1,h.1.1.2,h.1.2,h.2⟩
theorem BInv.alkH(h:BInv m L){p:PD}(hp:alkH L p=true):∀q∈L,alkD q p=true:=fun q hq=>by
 cases L with
 |nil=>cases hq
 |cons a L=>exact ZkK (h.alk q hq a List.mem_cons_self) hp
theorem BInv.put(h:BInv m L){p:PD}(hs:smalls p.xs):BInv m (bput m L p):=by
 unfold bput
 by_cases ht:Zdm m L p=true
 ·rw[if_pos ht]
  obtain⟨hm,ho,ha,_⟩:=ZiJ ht
  have hal:=h.alkH ha
  refine⟨by rw[List.length_append,List.length_singleton];exact(ZnM h.le hm).1,fun q hq=>?_,fun q hq r hr=>?_,fun q hq=>?_⟩
  ·rcases List.mem_append.1 hq with hq|hq
   ·exact h.ok q (ZbS q hq)
   ·rw[List.mem_singleton.1 hq];exact ho
  ·rcases List.mem_append.1 hq with hq|hq<;>rcases List.mem_append.1 hr with hr|hr
   ·exact h.alk q (ZbS q hq) r (ZbS r hr)
   ·rw[List.mem_singleton.1 hr];exact hal q (ZbS q hq)
   ·rw[List.mem_singleton.1 hq];exact Zn4 (hal r (ZbS r hr))
   ·rw[List.mem_singleton.1 hq,List.mem_singleton.1 hr];exact Zi1 p
  ·rcases List.mem_append.1 hq with hq|hq
   ·exact h.sm q (ZbS q hq)
   ·rw[List.mem_singleton.1 hq];exact hs
 ·rw[if_neg ht];exact h
theorem BInv.get(h:BInv m L){i:Nat}(hi:i<L.length):okD (L.getD i .dflt)=true∧alkD (L.getD 0 .dflt) (L.getD i .dflt)=true:=by
 have hm:L.getD i .dflt∈L:=by rw[List.getD_eq_getElem?_getD,List.getElem?_eq_getElem hi];exact List.getElem_mem hi
 have h0:L.getD 0 .dflt∈L:=by rw[List.getD_eq_getElem?_getD,List.getElem?_eq_getElem (show 0<L.length by omega)];exact List.getElem_mem _
 exact⟨h.ok _ hm,h.alk _ h0 _ hm⟩
theorem BInv.deg(h:BInv m L){i:Nat}(hi:i<L.length):(degD L i:Int)≤(L.getD 0 .dflt).k∧(L.getD 0 .dflt).k≤128:=by
 obtain⟨h1,h2⟩:=h.get hi
 unfold alkD at h2
 rw[decide_eq_true_eq]at h2
 have h3:=ZyE h1
 have h4:=(Zcx h1).2.2.2.2.1
 unfold degD
 rw[h2.2.2.1]
 exact⟨h3,h4⟩
theorem Zlq{α β:Type}(f:α→β):∀(l:List α) (i:Nat),(l.eraseIdx i).map f=(l.map f).eraseIdx i
 |[],_=>rfl
 |a::l,0=>rfl
 |a::l,i+1=>by simp only[List.eraseIdx_cons_succ,List.map_cons];rw[Zlq f l i]
def OwnKs(w:World)(B:Nat)(ps:List PKV):Prop:=∀p∈ps,Own w B (.slice p.r.a p.r.n p.r.c) p.r.xs
theorem OwnKs.nil(w:World)(B:Nat):OwnKs w B []:=fun r hr=>by cases hr
theorem OwnKs.below{ps:List PKV}(h:OwnKs w B ps)(hb:Below w.heap.size w w'):OwnKs w' B ps:=fun r hr=>(h r hr).below hb
theorem OwnKs.mono{ps:List PKV}(h:OwnKs w B ps)(hB:B'≤B):OwnKs w B' ps:=fun r hr=>(h r hr).mono hB
theorem OwnKs.snoc{ps:List PKV}{p:PKV}(h:OwnKs w B ps)(hr:Own w B (.slice p.r.a p.r.n p.r.c) p.r.xs):OwnKs w B (ps++[p]):=fun x hx=>by
 rcases List.mem_append.1 hx with hx|hx
 ·exact h x hx
 ·rw[List.mem_singleton.1 hx];exact hr
theorem OwnKs.sub{a b:List PKV}(h:OwnKs w B b)(hs:∀p∈a,p∈b):OwnKs w B a:=fun p hp=>h p (hs p hp)
theorem OwnKs.ks{ps:List PKV}(h:OwnKs w B ps):KsIn w ps:=fun r hr=>by
 obtain⟨a,c,e,h1⟩:=(h r hr).row
 simp only[Value.slice.injEq]at e
 obtain⟨e1,e2,e3⟩:=e
 exact⟨by rw[e1,e2];exact h1,(h r hr).cap⟩
theorem OwnKs.tu{ps:List PKV}(h:OwnKs w B ps)(ht:Tu F w w')(hF:∀j cur,w.heap[j]? =some (.cells cur 69 (0,0))→¬F j):OwnKs w' B ps:=fun r hr=>
 (h r hr).tu ht fun j hj=>by
  obtain⟨cur,hc⟩:=(h r hr).blkU hj
  exact hF j cur hc
def bfF(g:Nat)(v:Value)(k:Nat):Prop:=k=g∨v.ownBlock=some k
structure BfAt(w:World)(g B m:Nat)(v:Value)(ps:List PKV):Prop where
 blk:BkA 280 w g [.int .i64 (m:Int),v]
 lo:B≤g
 own:OwnP w B v ps
 rows:OwnKs w B ps
 inv:BInv m (ps.map PKV.pd)
 most:m≤256
theorem BfAt.below{ps:List PKV}(h:BfAt w g B m v ps)(hb:Below w.heap.size w w'):BfAt w' g B m v ps:=
 ⟨h.blk.below hb,h.lo,h.own.below hb,h.rows.below hb,h.inv,h.most⟩
theorem BfAt.mono{ps:List PKV}(h:BfAt w g B m v ps)(hB:B'≤B):BfAt w g B' m v ps:=
 ⟨h.blk,Nat.le_trans hB h.lo,h.own.mono hB,h.rows.mono hB,h.inv,h.most⟩
theorem BfAt.lt{ps:List PKV}(h:BfAt w g B m v ps):g<w.heap.size:=h.blk.lt
theorem BfAt.lob{ps:List PKV}(h:BfAt w g B m v ps):B≤w.heap.size:=Nat.le_of_lt (Nat.lt_of_le_of_lt h.lo h.lt)
theorem BfAt.len{ps:List PKV}(h:BfAt w g B m v ps):ps.length≤m∧ps.length≤256:=by
 have h1:=h.inv.le
 have h2:=h.most
 rw[List.length_map]at h1
 omega
theorem BfAt.low{ps:List PKV}(h:BfAt w g B m v ps):∀j,j<B→¬bfF g v j:=fun j hj hf=>by
 rcases hf with rfl|hf
 ·have:=h.lo;omega
 ·have:=(World.ownsRow.lt h.own j hf).1;omega
theorem BfAt.words{ps:List PKV}(h:BfAt w g B m v ps):∀j cur,w.heap[j]? =some (.cells cur 69 (0,0))→¬bfF g v j:=fun j cur hc hf=>by
 rcases hf with rfl|hf
 ·exact h.blk.ne hc (by decide) rfl
 ·obtain⟨cur2,h2⟩:=h.own.blk hf
  rw[h2]at hc
  simp only[Option.some.injEq,Obj.cells.injEq]at hc
  exact absurd hc.2.1 (by decide)
theorem BfAt.tu{ps:List PKV}(h:BfAt w g B m v ps)(ht:Tu F w w')(hs:∀j,bfF g v j→¬F j)(hw:∀j cur,w.heap[j]? =some (.cells cur 69 (0,0))→¬F j):BfAt w' g B m v ps:=
 ⟨h.blk.tu ht (hs g (.inl rfl)),h.lo,h.own.tu ht (fun j hj=>hs j (.inr hj)),h.rows.tu ht hw,h.inv,h.most⟩
theorem BfAt.at{ps:List PKV}(h:BfAt w g B m v ps):∃a c,v=.slice a ps.length c∧PksAt w a ps.length ps∧ps.length≤c∧c≤9223372036854775807:=h.own.pks h.rows.ks
theorem BfAt.cells{ps:List PKV}(h:BfAt w g B m v ps)(hb:Below w.heap.size w w'):w'.cell? ⟨g,0,none⟩=some (.int .i64 (m:Int))∧w'.cell? ⟨g,1,none⟩=some v:=
 ⟨(h.blk.below hb).at 0 rfl,(h.blk.below hb).at 1 rfl⟩
def MvB(w:World)(v v':Value):Prop:=v'.ownBlock=v.ownBlock∨∀j,v'.ownBlock=some j→w.heap.size≤j
theorem MvB.refl(w:World)(v:Value):MvB w v v:=.inl rfl
theorem MvB.at{v':Value}(h:MvB w v v')(g j:Nat)(hj:j<w.heap.size)(hf:bfF g v' j):bfF g v j:=by
 rcases hf with rfl|hf
 ·exact .inl rfl
 ·rcases h with e|e
  ·exact .inr (e▸hf)
  ·have:=e j hf;omega
theorem MvB.trans{v2:Value}(h:MvB w v v1)(k:MvB w1 v1 v2)(hs:w.heap.size≤w1.heap.size):MvB w v v2:=by
 rcases k with e|e
 ·unfold MvB;rw[e];exact h
 ·exact .inr fun j hj=>Nat.le_trans hs (e j hj)
theorem MvB.new(h:MvB w1 v v1)(hs:w.heap.size≤w1.heap.size):MvB w v v1:=(MvB.refl w v).trans h hs
theorem ZrM{w2:World}(h:Tu (bfF g v) w w1)(k:Tu (bfF g v1) w1 w2)(hm:MvB w v v1):Tu (bfF g v) w w2:=h.trans k fun j hj hf=>hm.at g j hj hf
theorem BfAt.puts{ps ps1:List PKV}(h:BfAt w g B m v ps)(ht:Tu (fun j=>v.ownBlock=some j) w w1)(ho:OwnP w1 B v1 ps1)(hr:OwnKs w1 B ps1)(hi:BInv m (ps1.map PKV.pd))(hm:MvB w v v1):
  BfAt (w1.setCell ⟨g,1,none⟩ v1) g B m v1 ps1∧Tu (bfF g v) w (w1.setCell ⟨g,1,none⟩ v1):=by
 have hb1:BkA 280 w1 g [.int .i64 (m:Int),v]:=h.blk.tu ht fun e=>h.blk.neP h.own (by decide) e
 have hset:=Zav w1 g 1 v1
 refine⟨⟨hb1.set 1 v1,h.lo,ho.tu hset fun j hj e=>hb1.neP ho (by decide) (by rw[hj,e]),hr.tu hset fun j cur hc e=>hb1.ne hc (by decide) e.symm,hi,h.most⟩,?_⟩
 exact((Tu.refl (bfF g v) w).trans ht (fun _ _ e=>.inr e)).trans hset (fun _ _ e=>.inl e)
theorem ZAT(w:World)(m:Nat)(hm:m≤256):BfAt (w.alloc (.cells #[.int .i64 (m:Int),.slice none 0 0] 280)) w.heap.size w.heap.size m (.slice none 0 0) []:=
 ⟨Zag 280 w [.int .i64 (m:Int),.slice none 0 0],Nat.le_refl _,OwnP.nil _ _,OwnKs.nil _ _,BInv.nil _,hm⟩
def zK:PKV:=⟨0,0,0,0,0,⟨none,0,0,[],⟨#[]⟩⟩⟩
def Zeh(n:Nat)(us:List PKV):List PKV:=us++List.replicate (n-us.length) zK
theorem ZoV(n:Nat):Zeh n []=List.replicate n zK:=by simp[Zeh]
theorem Zlb{us:List PKV}(h:us.length≤n):(Zeh n us).length=n:=by simp[Zeh];omega
theorem Zq5{us:List PKV}(h:us.length=n):Zeh n us=us:=by simp[Zeh,h]
theorem ZoL{us:List PKV}(r:PKV)(h:us.length<n):(Zeh n us).set us.length r=Zeh n (us++[r]):=by
 unfold Zeh
 rw[List.set_append_right _ _ (Nat.le_refl _),Nat.sub_self,List.length_append,List.length_singleton,List.append_assoc,show n-us.length=(n-(us.length+1))+1 by omega,List.replicate_succ,List.set_cons_zero]
 rfl
theorem Zil:∀(ps:List PKV) (k:Nat) (p:PKV),(((((((cellsK ps).set (k*7) (.int .i64 p.o)).set (k*7+1) (.int .i64 p.l)).set (k*7+2) (.int .i64 p.k)).set (k*7+3) (.int .i64 p.z)).set (k*7+4) (.int .i64 p.h)).set (k*7+5) (.slice p.r.a p.r.n p.r.c)).set (k*7+6) (.string p.r.s)=cellsK (ps.set k p)
 |[],k,p=>by simp[cellsK]
 |x::ps,0,p=>by simp[cellsK,PKV.cells]
 |x::ps,k+1,p=>by
  have h:=Zil ps k p
  have e:∀(l:List Value) (j:Nat) (u:Value),(x.cells++l).set (7+j) u=x.cells++l.set j u:=fun l j u=>by
   rw[List.set_append_right _ _ (by show 7≤_;omega)]
   show _++l.set (7+j-7) u=_
   rw[Nat.add_sub_cancel_left]
  show(((((((x.cells++cellsK ps).set ((k+1)*7) _).set ((k+1)*7+1) _).set ((k+1)*7+2) _).set ((k+1)*7+3) _).set ((k+1)*7+4) _).set ((k+1)*7+5) _).set ((k+1)*7+6) _=x.cells++cellsK (ps.set k p)
  rw[show(k+1)*7=7+k*7 by omega,Nat.add_assoc,Nat.add_assoc,Nat.add_assoc,Nat.add_assoc,Nat.add_assoc,Nat.add_assoc,e,e,e,e,e,e,e,h]
theorem Zf4:∀n:Nat,(madeCells #[.int .i64 0,.int .i64 0,.int .i64 0,.int .i64 0,.int .i64 0,.slice none 0 0,.string ⟨#[]⟩] (n*7)).toList=cellsK (List.replicate n zK)
 |0=>by simp[madeCells,cellsK]
 |n+1=>by
  rw[List.replicate_succ',ZbI,←Zf4 n]
  unfold madeCells
  rw[show(n+1)*7=n*7+1+1+1+1+1+1+1 by omega]
  simp only[Array.toList_map,Array.toList_range]
  rw[List.range_succ,List.range_succ,List.range_succ,List.range_succ,List.range_succ,List.range_succ,List.range_succ]
  simp[cellsK,PKV.cells,zK,Nat.mul_mod_left]
theorem ZAx(n:Nat)(hn:n≤1048576)(wx:World):(Instr.makeSlice 53 (.int .i64 (n:Int)) (.int .i64 (n:Int))).run Tryz.prog wx=.ok (.slice (some ⟨wx.heap.size,0,none⟩) n n) (wx.alloc (.cells (madeCells #[.int .i64 0,.int .i64 0,.int .i64 0,.int .i64 0,.int .i64 0,.slice none 0 0,.string ⟨#[]⟩] (n*7)) 59)):=by
 obtain⟨i0,hi0,hz0,hzs,hzb⟩:=info_parts ZeO
 have:=run_make (P:=Tryz.prog) wx 53 59 i0 _ Tryz.underlying53 hi0 hz0 .i64 .i64 (n:Int) (n:Int) (by omega) (Int.le_refl _) (by rw[hzb];omega) (by omega)
 rw[hzs]at this
 simpa [Value.cells]using this
theorem ZA2(w:World)(n:Nat)(hn:n≤1048576)(ps:List PKV)(hps:ps=List.replicate n zK):OwnP (w.alloc (.cells (madeCells #[.int .i64 0,.int .i64 0,.int .i64 0,.int .i64 0,.int .i64 0,.slice none 0 0,.string ⟨#[]⟩] (n*7)) 59)) w.heap.size (.slice (some ⟨w.heap.size,0,none⟩) n n) ps:=by
 subst hps
 refine⟨ZaJ _,.inr ⟨w.heap.size,n,madeCells #[.int .i64 0,.int .i64 0,.int .i64 0,.int .i64 0,.int .i64 0,.slice none 0 0,.string ⟨#[]⟩] (n*7),by simp,Nat.le_refl _,heap_alloc_new w _,by simp,by unfold maxLen;omega,by simp[size_madeCells],?_⟩⟩
 rw[Zf4,List.take_of_length_le (by rw[ZaJ];exact Nat.le_refl _)]
def setK(w:World)(g off:Nat)(p:PKV):World:=((((((w.setCell ⟨g,off,none⟩ (.int .i64 p.o)).setCell ⟨g,off+1,none⟩ (.int .i64 p.l)).setCell ⟨g,off+2,none⟩ (.int .i64 p.k)).setCell ⟨g,off+3,none⟩ (.int .i64 p.z)).setCell ⟨g,off+4,none⟩ (.int .i64 p.h)).setCell ⟨g,off+5,none⟩ (.slice p.r.a p.r.n p.r.c)).setCell ⟨g,off+6,none⟩ (.string p.r.s)
theorem OwnP.stored{cap:Nat}{ps:List PKV}(h:OwnP w B (.slice (some ⟨g,0,none⟩) n cap) ps)(k:Nat)(p:PKV):OwnP (setK w g (k*7) p) B (.slice (some ⟨g,0,none⟩) n cap) (ps.set k p):=by
 obtain rfl:n=ps.length:=by
  rcases h.2 with⟨e,_⟩|⟨g1,cap1,cur,e,_⟩
  ·cases e
  ·simp only[Value.slice.injEq]at e;exact e.2.1
 have ho:w.ownsRow B 59 7 (.slice (some ⟨g,0,none⟩) ps.length cap) ps.length (cellsK ps):=h
 have:=((((((((ho.stored (k*7) (.int .i64 p.o)).1.stored (k*7+1) (.int .i64 p.l)).1.stored (k*7+2) (.int .i64 p.k)).1.stored (k*7+3) (.int .i64 p.z)).1.stored (k*7+4) (.int .i64 p.h)).1.stored (k*7+5) (.slice p.r.a p.r.n p.r.c)).1.stored (k*7+6) (.string p.r.s))).1
 rw[Zil]at this
 show World.ownsRow _ B 59 7 _ (ps.set k p).length _
 rw[List.length_set]
 exact this
theorem ZBk{a:World}(h:Below B a w){g:Nat}(hg:B≤g)(off:Nat)(p:PKV):Below B a (setK w g off p):=
 ((((((h.setCell (p:=⟨g,off,none⟩) hg _).setCell (p:=⟨g,off+1,none⟩) hg _).setCell (p:=⟨g,off+2,none⟩) hg _).setCell (p:=⟨g,off+3,none⟩) hg _).setCell (p:=⟨g,off+4,none⟩) hg _).setCell (p:=⟨g,off+5,none⟩) hg _).setCell (p:=⟨g,off+6,none⟩) hg _
theorem OwnKs.set{ps:List PKV}(h:OwnKs w B ps)(i:Nat)(u:Value)(hg:g<B):OwnKs (w.setCell ⟨g,i,none⟩ u) B ps:=fun r hr=>(h r hr).other i u hg
theorem OwnKs.setK{ps:List PKV}(h:OwnKs w B ps)(off:Nat)(p:PKV)(hg:g<B):OwnKs (setK w g off p) B ps:=
 ((((((h.set off _ hg).set (off+1) _ hg).set (off+2) _ hg).set (off+3) _ hg).set (off+4) _ hg).set (off+5) _ hg).set (off+6) _ hg
theorem Zs6(w:World)(g off:Nat)(p:PKV):(setK w g off p).heap.size=w.heap.size:=by unfold setK;simp
theorem ZrU(n:Int)(w:World):
  Calls Tryz.prog 123 #[.int .i64 n] w fun e w'=>e=.returned (.pointer (some ⟨w.heap.size,0,none⟩))∧BfAt w' w.heap.size w.heap.size (capN n) (.slice none 0 0) []∧Below w.heap.size w w':=by
 have h1:=Zje n
 have h2:=ZiY n
 go_enter Tryz.func123,Tryz.ntmps123
 go_wp2
 go_ret
 exact⟨rfl,ZAT w (capN n) (ZfQ n),(Below.refl _ _).alloc (Nat.le_refl _) _⟩
theorem ZrQ(g B m:Nat)(v:Value)(ps:List PKV)(w:World)(h:BfAt w g B m v ps):
  Calls Tryz.prog 361 #[.pointer (some ⟨g,0,none⟩)] w fun e w'=>e=.returned (.int .i64 (ps.length:Int))∧w'=w:=by
 obtain⟨a,c,rfl, -, -, -⟩:=h.at
 obtain⟨h0,h1⟩:=h.cells (Below.refl _ _)
 clear h
 go_enter Tryz.func361,Tryz.ntmps361
 go_wp2
 go_ret
 exact⟨rfl,rfl⟩
theorem Zm0(p:PKV)(w:World):
  Calls Tryz.prog 371 #[p.val] w fun e w'=>e=.returned (.agg #[.int .i64 p.o,.int .i64 p.l,.int .i64 p.k,.int .i64 p.z])∧Below w.heap.size w w':=by
 unfold PKV.val
 go_enter Tryz.func371,Tryz.ntmps371
 go_wp2
 exact bodyPost_ret (v:=.agg #[.int .i64 p.o,.int .i64 p.l,.int .i64 p.k,.int .i64 p.z]) (by simp[results,Tryz.results371,go_sem]) rfl ⟨rfl,((Below.refl _ _).alloc (Nat.le_refl _) _).alloc (by simp) _⟩
theorem ZzL(o l k z o' l' k' z':Int)(W:World):
  (binOp .eql 432 (.agg #[.int .i64 o,.int .i64 l,.int .i64 k,.int .i64 z]) (.agg #[.int .i64 o',.int .i64 l',.int .i64 k',.int .i64 z'])).run Tryz.prog W=.ok (.bool (decide (o=o'∧l=l'∧k=k'∧z=z'))) W:=by
 rw[run_eql_struct,run_equalIn_struct (d:=9999) (ht:=by kernel_rfl) (hp:=by kernel_rfl)]
 simp only[Program.fieldsOf,Tryz.underlying432]
 by_cases h1:o=o'
 ·by_cases h2:l=l'
  ·by_cases h3:k=k'
   ·by_cases h4:z=z'
    ·simp[Op.eqFields,part,go_sem,Tryz.underlying3,h1,h2,h3,h4]
    ·simp[Op.eqFields,part,go_sem,Tryz.underlying3,h1,h2,h3,h4]
   ·simp[Op.eqFields,part,go_sem,Tryz.underlying3,h1,h2,h3]
  ·simp[Op.eqFields,part,go_sem,Tryz.underlying3,h1,h2]
 ·simp[Op.eqFields,part,go_sem,Tryz.underlying3,h1]
theorem Own.setB7{xs:List Nat}(h:Own w B v xs)(hg:g<B)(u0 u1 u2 u3 u4 u5 u6:Value):Own (set7 w g u0 u1 u2 u3 u4 u5 u6) B v xs:=
 ((((((h.other 0 u0 hg).other 1 u1 hg).other 2 u2 hg).other 3 u3 hg).other 4 u4 hg).other 5 u5 hg).other 6 u6 hg
theorem ZkJ{wx:World}{tmps:Array Value}{b:Nat}{o l k z h:Int}{v5 u5:Value}{s:ByteArray}{z0 z1 z2 z3 z4 z5 z6:Value}(ht:tmps.getD 2 undef=.pointer (some ⟨b+1,0,none⟩))(hq:PkB wx (b+1) z0 z1 z2 z3 z4 z5 z6):
  (results Tryz.f363 tmps).run Tryz.prog (set7 ((wx.setCell ⟨b,5,none⟩ v5).setCell ⟨b,6,none⟩ (.string s)) (b+1) (.int .i64 o) (.int .i64 l) (.int .i64 k) (.int .i64 z) (.int .i64 h) u5 (.string s))=
   .ok (.agg #[.int .i64 o,.int .i64 l,.int .i64 k,.int .i64 z,.int .i64 h,u5,.string s]) (set7 ((wx.setCell ⟨b,5,none⟩ v5).setCell ⟨b,6,none⟩ (.string s)) (b+1) (.int .i64 o) (.int .i64 l) (.int .i64 k) (.int .i64 z) (.int .i64 h) u5 (.string s)):=by
 have hk:=((hq.other (a:=⟨b,5,none⟩) (Nat.succ_ne_self b) v5).other (a:=⟨b,6,none⟩) (Nat.succ_ne_self b) (.string s)).sets (.int .i64 o) (.int .i64 l) (.int .i64 k) (.int .i64 z) (.int .i64 h) u5 (.string s)
 obtain⟨r0,r1,r2,r3,r4,r5,r6⟩:=hk.at
 have ht':tmps[2]?.getD undef=.pointer (some ⟨b+1,0,none⟩):=by simpa using ht
 generalize set7 ((wx.setCell ⟨b,5,none⟩ v5).setCell ⟨b,6,none⟩ (.string s)) (b+1) (.int .i64 o) (.int .i64 l) (.int .i64 k) (.int .i64 z) (.int .i64 h) u5 (.string s)=X at*
 simp[results,Tryz.results363,go_sem,ht',r0,r1,r2,r3,r4,r5,r6]
theorem Zj6{wx:World}{a2:Option Addr}{c2:Nat}{xs:List Nat}{o l k z h:Int}{s:ByteArray}(ho:Own wx (w.heap.size+2) (.slice a2 n c2) xs)(hb:Below w.heap.size w wx):
  Own (set7 ((wx.setCell ⟨w.heap.size,5,none⟩ (.slice a2 n c2)).setCell ⟨w.heap.size,6,none⟩ (.string s)) (w.heap.size+1) (.int .i64 o) (.int .i64 l) (.int .i64 k) (.int .i64 z) (.int .i64 h) (.slice a2 n c2) (.string s)) w.heap.size (.slice a2 n c2) xs∧
   Below w.heap.size w (set7 ((wx.setCell ⟨w.heap.size,5,none⟩ (.slice a2 n c2)).setCell ⟨w.heap.size,6,none⟩ (.string s)) (w.heap.size+1) (.int .i64 o) (.int .i64 l) (.int .i64 k) (.int .i64 z) (.int .i64 h) (.slice a2 n c2) (.string s)):=
 ⟨(((ho.other 5 _ (by omega)).other 6 _ (by omega)).setB7 (by omega) _ _ _ _ _ _ _).mono (Nat.le_add_right _ _),Zbd ((hb.setCell (p:=⟨w.heap.size,5,none⟩) (Nat.le_refl _) _).setCell (p:=⟨w.heap.size,6,none⟩) (Nat.le_refl _) _) (Nat.le_succ _) _ _ _ _ _ _ _⟩
theorem ZhQ(p:PKV)(w:World)(h:RowAt w p.r.a p.r.n p.r.xs)(hn:p.r.n≤1048576)(hs:p.r.s.size≤1048576):
  Calls Tryz.prog 363 #[p.val] w fun e w'=> ∃a2 c2,e=.returned (PKV.val ⟨p.o,p.l,p.k,p.z,p.h,⟨a2,p.r.n,c2,p.r.xs,p.r.s⟩⟩)∧Own w' w.heap.size (.slice a2 p.r.n c2) p.r.xs∧Below w.heap.size w w':=by
 obtain⟨o,l,k,z,hp,a,n,c,xs,s⟩:=p
 unfold PKV.val
 dsimp only at h hn hs⊢
 have hx1:=(ZaG w (.int .i64 o) (.int .i64 l) (.int .i64 k) (.int .i64 z) (.int .i64 hp) (.slice a n c) (.string s)).below ((Below.refl _ _).alloc (Nat.le_refl _) (.cells #[.int .i64 0,.int .i64 0,.int .i64 0,.int .i64 0,.int .i64 0,.slice none 0 0,.string ⟨#[]⟩] 59))
 have hx2:=ZaG (w.alloc (.cells #[.int .i64 o,.int .i64 l,.int .i64 k,.int .i64 z,.int .i64 hp,.slice a n c,.string s] 59)) (.int .i64 0) (.int .i64 0) (.int .i64 0) (.int .i64 0) (.int .i64 0) (.slice none 0 0) (.string ⟨#[]⟩)
 rw[Zab]at hx2
 have hb0:Below w.heap.size w ((w.alloc (.cells #[.int .i64 o,.int .i64 l,.int .i64 k,.int .i64 z,.int .i64 hp,.slice a n c,.string s] 59)).alloc (.cells #[.int .i64 0,.int .i64 0,.int .i64 0,.int .i64 0,.int .i64 0,.slice none 0 0,.string ⟨#[]⟩] 59)):=Zel (Below.refl _ w) (Below.refl _ _)
 have hsz:((w.alloc (.cells #[.int .i64 o,.int .i64 l,.int .i64 k,.int .i64 z,.int .i64 hp,.slice a n c,.string s] 59)).alloc (.cells #[.int .i64 0,.int .i64 0,.int .i64 0,.int .i64 0,.int .i64 0,.slice none 0 0,.string ⟨#[]⟩] 59)).heap.size=w.heap.size+2:=by rw[Zab,Zab]
 have hr:=h.below hb0
 have hnn:=h.1
 generalize hW:(w.alloc (.cells #[.int .i64 o,.int .i64 l,.int .i64 k,.int .i64 z,.int .i64 hp,.slice a n c,.string s] 59)).alloc (.cells #[.int .i64 0,.int .i64 0,.int .i64 0,.int .i64 0,.int .i64 0,.slice none 0 0,.string ⟨#[]⟩] 59)=W at*
 have HCL:=hide (fun wx (hb:Below W.heap.size W wx)=>ZbE a n c xs wx (hr.below hb) (by omega))
 have HSC:=hide (fun wx=>Zbp s wx hs)
 have HQ:=hide (fun wx (hb:Below W.heap.size W wx)=>show _∧_ from⟨hx1.below hb,hx2.below hb⟩)
 have HB0:=hide hb0
 have HN:=hide hnn
 have HZ:=hide hsz
 obtain⟨-, -, -, -, -,c5,c6⟩:=hx1.at
 clear h hr hx1 hx2 hb0 hnn hsz
 go_enter Tryz.func363,Tryz.ntmps363
 go_wp2_with fail
 go_region_law (first
  |(go_simp;go_at_call 236;refine(unhide HCL _ (by first|exact unhide D2|exact(Below.refl _ _).drew)).mono ?_;rintro e w1 ⟨v1,rfl,ho1,hb1⟩;obtain⟨a2,c2,rfl, -⟩:=ho1.row;have D1:=hide (show Below W.heap.size W w1 from below0 (by first|exact unhide D2|exact(Below.refl _ _).drew) hb1);rw[unhide HN]at ho1⊢;have HO1:=hide (ho1.mono (B':=w.heap.size+2) (by rw[←unhide HZ];first|exact(unhide D2).size|exact Nat.le_refl _));obtain⟨⟨q0,q1,q2,q3,q4,q5,q6⟩,⟨y0,y1,y2,y3,y4,y5,y6⟩⟩:=And.intro (unhide HQ w1 (unhide D1)).1.at (unhide HQ w1 (unhide D1)).2.at;have f5:=(unhide HQ w1 (unhide D1)).1.frz 5;have f6:=(unhide HQ w1 (unhide D1)).1.frz 6;have gz:=(unhide HQ w1 (unhide D1)).2.frz;clear ho1 hb1)
  |(go_simp;go_at_call 89;refine(unhide HSC _).mono ?_;rintro e w2 ⟨rfl,hb2⟩;have D2:=hide (show Below W.heap.size W w2 from below0 (by first|exact unhide D1|exact(Below.refl _ _).drew) hb2);(first|(have HO1:=hide ((unhide HO1).below hb2))|skip);obtain⟨⟨q0,q1,q2,q3,q4,q5,q6⟩,⟨y0,y1,y2,y3,y4,y5,y6⟩⟩:=And.intro (unhide HQ w2 (unhide D2)).1.at (unhide HQ w2 (unhide D2)).2.at;have f5:=(unhide HQ w2 (unhide D2)).1.frz 5;have f6:=(unhide HQ w2 (unhide D2)).1.frz 6;have gz:=(unhide HQ w2 (unhide D2)).2.frz;clear hb2)
  |fail)
 all_goals go_wp2
 all_goals first
  |exact bodyPost_ret (ZkJ (wx:=w2) rfl (unhide HQ w2 (unhide D2)).2) rfl ⟨a2,c2,rfl,Zj6 (unhide HO1) (below0 (unhide HB0) (unhide D2))⟩
  |exact bodyPost_ret (ZkJ (wx:=w1) rfl (unhide HQ w1 (unhide D1)).2) rfl ⟨a2,c2,rfl,Zj6 (unhide HO1) (below0 (unhide HB0) (unhide D1))⟩
end Go.Proofs.YtlhhinlghhjghaaGreatDoor
