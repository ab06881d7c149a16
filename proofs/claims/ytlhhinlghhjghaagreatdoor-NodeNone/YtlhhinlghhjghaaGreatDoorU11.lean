/-
  Contract of slices.Insert at [][]uint64, one row put into a slice of the call's own: at its end, in place, in new memory. For at most 2^20 rows.
  Slices of rows of the call's own, each row in a block of its own ('OwnV'): what one store, one row more, another call leaves of them. Contracts of echelon.In, of insert's closure and of slices.IndexFunc over it.
  Contracts of echelon.Add and of bucketlineref03.Reduce, Same, bucketlinelaw03.Few: for rows of at most 2^20 words.
  Contracts of bucketlineref03.Same, Add, Basis, Rank and of bucketlinelaw03.Few: for rows of at most 2^20 words.
  Slices of the rows' vectors, of one's own.
  Plain mathematics of what a span has, the rows being numbers: rows of which none has the lowest bit of one ahead, the xor that a choice tells, and that a row with a mark of its own behind all tells its choice. Of no program, no condition.
-/
import Derived.Test.YtlhhinlghhjghaaGreatDoorU10
import Derived.Lib.Overlaps
import Derived.Lib.AppendZerosOnto
import Derived.Lib.AppendZeros
import Derived.Laws.Externs
import Derived.Laws.IdiomCopy
import Derived.Laws.NewBlocks
import Derived.Deep.RegionLaw
import Derived.Laws.MakeOwn
import Derived.Lib.QuietBelow
import Derived.Test.YtlhhinlghhjghaaGreatDoorU2
import Derived.Test.YtlhhinlghhjghaaGreatDoorU9
namespace Go.Proofs.YtlhhinlghhjghaaGreatDoor
open Go.RowKit
set_option linter.unusedVariables false
set_option linter.unusedSimpArgs false
set_option maxRecDepth 4000
theorem Ze1:(Tryz.prog.info? 32).map (fun i=>(i.zero,i.size,i.bytes))=some (some (.slice none 0 0),1,24):=by kernel_rfl
theorem Zrw(w:World):(sizeOf 32).run Tryz.prog w=.ok 1 w:=by
 obtain⟨i0,hi,_,hz,_⟩:=info_parts Ze1
 simp[sizeOf,typeInfo,hi,hz]
end Go.Proofs.YtlhhinlghhjghaaGreatDoor
namespace Go.Proofs.YtlhhinlghhjghaaGreatDoor
open Go.RowKit
set_option linter.unusedVariables false
set_option linter.unusedSimpArgs false
set_option maxRecDepth 4000
variable {rs:List (List Nat)}{vs:List Value}{B:Nat}{v:Value}{w w':World}
structure OwnV(w:World)(B:Nat)(v:Value)(vs:List Value)(rs:List (List Nat)):Prop where
 top:w.ownsRow B 32 1 v rs.length vs
 rows:∀i u,vs[i]? =some u→Own w B u (rs.getD i [])
 apart:vs.Pairwise Dis
theorem OwnV.len(h:OwnV w B v vs rs):vs.length=rs.length:=by simpa using h.top.1
theorem OwnV.nil(w:World)(B:Nat):OwnV w B (.slice none 0 0) [] []:=⟨World.ownsRow_nil _ _ _ _,(fun i u h=>by simp at h),.nil⟩
theorem Zkk{B':Nat}{u:Value}{n:Nat}{cs:List Value}{xs:List Nat}(h:w.ownsRow B 32 1 v n cs)(k:Own w B' u xs):Dis u v:=by
 rcases h.2 with⟨rfl,_⟩|⟨g,cap,cur,rfl,hb,hg,_⟩
 ·by_cases e:u.ownBlock=none
  ·exact .inl e
  ·exact .inr e
 ·rcases k.2.2 with⟨rfl,_⟩|⟨g',cap',cur',rfl,hb',hg',_⟩
  ·exact .inl rfl
  ·right
   intro e
   simp only[Value.ownBlock,Option.some.injEq]at e
   rw[e]at hg'
   rw[hg]at hg'
   simp at hg'
theorem OwnV.dis(h:OwnV w B v vs rs){i:Nat}{u:Value}(hu:vs[i]? =some u):Dis u v:=Zkk h.top (h.rows i u hu)
theorem Zcg{e:TypeId}{n:Nat}{cs:List Value}(h:w.ownsRow B e 1 v n cs)(hb:Below w.heap.size w w'):w'.ownsRow B e 1 v n cs:=
 h.kept (Zai hb none) (by cases hv:v.ownBlock<;>simp)
theorem OwnV.below(h:OwnV w B v vs rs)(hb:Below w.heap.size w w'):OwnV w' B v vs rs:=
 ⟨Zcg h.top hb,fun i u hu=>(h.rows i u hu).below hb,h.apart⟩
theorem OwnV.vecs(h:OwnV w B v vs rs):∃a c,v=.slice a rs.length c∧VecsAt w a rs.length rs:=by
 have hl:=h.len
 rcases h.top.2 with⟨rfl,h0⟩|⟨g,cap,cur,rfl,hb,hg,hnc,hcm,hcs,ht⟩
 ·exact⟨none,0,by rw[h0],rfl,.inl h0,fun _ _ _ _ _ _ e=>by cases e⟩
 ·have hcell:∀i (hi:i<vs.length),w.cell? ⟨g,i,none⟩=some vs[i]:=fun i hi=>by
   rw[cell_of_row w g i _ _ _ hg,←Array.getElem?_toList,←List.getElem?_eq_getElem hi,←ht,List.getElem?_take_of_lt (by omega)]
  refine⟨_,cap,rfl,rfl,.inr ⟨g,0,rfl,fun i hi=>?_⟩,fun b off i ai k ci e hi hc=>?_⟩
  ·have hiv:i<vs.length:=by omega
   obtain⟨a,c,e,hr⟩:=(h.rows i vs[i] (List.getElem?_eq_getElem hiv)).row
   refine⟨a,c,?_,hr⟩
   rw[Nat.zero_add,hcell i hiv,e]
  ·simp only[Option.some.injEq,Addr.mk.injEq,and_true]at e
   obtain⟨rfl,rfl⟩:=e
   have hiv:i<vs.length:=by omega
   have ho:=h.rows i vs[i] (List.getElem?_eq_getElem hiv)
   rw[Nat.zero_add,hcell i hiv]at hc
   rw[Option.some.inj hc]at ho
   exact ho.cap
theorem Zpd(r:List Nat)(p i:Nat)(C:List (List Nat))(hp:p≤C.length):(Zgj r p C).getD i []=if i<p then C.getD i []else if i=p then r else C.getD (i-1) []:=by
 unfold Zgj
 have hl:(C.take p).length=p:=by rw[List.length_take];omega
 rw[List.getD_eq_getElem?_getD]
 split
 ·rename_i h1
  rw[List.getElem?_append_left (by omega),List.getElem?_take_of_lt h1,List.getD_eq_getElem?_getD]
 ·rename_i h1
  rw[List.getElem?_append_right (by omega),hl]
  split
  ·rename_i h2;subst h2;simp
  ·rename_i h2
   rw[show i-p=(i-p-1)+1 by omega,List.getElem?_cons_succ,List.getElem?_drop,List.getD_eq_getElem?_getD,show p+(i-p-1)=i-1 by omega]
theorem OwnV.insert{p:Nat}{s rv:Value}{r:List Nat}(h:OwnV w B v vs rs)(hr:Own w B rv r)(hd:∀u∈vs,Dis u rv)(hp:p≤rs.length)
  (htop:w'.ownsRow B 32 1 s (rs.length+1) (vs.take p++rv::vs.drop p)) (hg:w.grownBy w' v.ownBlock):OwnV w' B s (vs.take p++rv::vs.drop p) (Zgj r p rs):=by
 have hl:=h.len
 have hlt:(vs.take p).length=p:=by rw[List.length_take];omega
 refine⟨by rw[ZdU r p rs hp];exact htop,fun i u hu=>?_,?_⟩
 ·rw[Zpd r p i rs hp]
  by_cases h1:i<p
  ·rw[if_pos h1]
   rw[List.getElem?_append_left (by omega),List.getElem?_take_of_lt h1]at hu
   exact(h.rows i u hu).kept hg (h.dis hu)
  ·rw[if_neg h1]
   rw[List.getElem?_append_right (by omega),hlt]at hu
   by_cases h2:i=p
   ·subst h2
    rw[if_pos rfl]
    simp at hu
    subst hu
    exact hr.kept hg (Zkk h.top hr)
   ·rw[if_neg h2]
    rw[show i-p=(i-p-1)+1 by omega,List.getElem?_cons_succ,List.getElem?_drop,show p+(i-p-1)=i-1 by omega]at hu
    exact(h.rows (i-1) u hu).kept hg (h.dis hu)
 ·refine(List.Perm.pairwise_iff (fun h=>Dis.symm h) (List.perm_middle (a:=rv) (l₁:=vs.take p) (l₂:=vs.drop p))).2 ?_
  rw[List.take_append_drop]
  exact List.pairwise_cons.2 ⟨fun u hu=>(hd u hu).symm,h.apart⟩
set_option maxHeartbeats 400000 in
theorem ZsJ(a:Option Addr)(n c:Nat)(rs:List (List Nat))(a':Option Addr)(m c':Nat)(xs:List Nat)(w:World)(ht:Tab w)(h:VecsAt w a n rs)(hf:Fit 1048576 rs)(h':RowAt w a' m xs)(hn:n≤1048576)(hm:m≤1048576):
  Calls Tryz.prog 283 #[.slice a n c,.slice a' m c'] w fun e w'=>e=.returned (.bool (decide (firstI (reduceL rs xs)<0)))∧Below w.heap.size w w':=by
 have HR:=hide (Zfr a n c rs a' m c' xs w ht h hf h' hn hm)
 have hl:=(Zao hf h'.2.1 (by rw[h'.1];exact hm)).2
 clear h h' hf
 generalize reduceL rs xs=r at*
 go_enter Tryz.func283,Tryz.ntmps283
 go_wp2_with fail
 refine(unhide HR).mono ?_
 rintro e w1 ⟨v,rfl,ho,hb⟩
 obtain⟨a1,c1,rfl,hr⟩:=ho.row
 have HF:=hide (Zc0 a1 r.length c1 r w1 (ht.below hb) hr hl)
 clear ho hr HR
 go_wp2_with (go_at_call 267;refine(unhide HF).mono ?_;rintro e w2 ⟨rfl,rfl⟩)
 go_ret
 exact⟨rfl,hb⟩
end Go.Proofs.YtlhhinlghhjghaaGreatDoor
namespace Go.Proofs.YtlhhinlghhjghaaGreatDoor
open Go.RowKit
set_option linter.unusedVariables false
set_option linter.unusedSimpArgs false
set_option maxRecDepth 4000
theorem Zwg(w:World)(n:Nat)(hn:n≤1048576)(rs:List (List Nat))(hrs:rs=List.replicate n []):
  OwnV (w.alloc (.cells (madeCells #[.slice none 0 0] n) 32)) w.heap.size (.slice (some ⟨w.heap.size,0,none⟩) n n) (List.replicate n (.slice none 0 0)) rs:=by
 subst hrs
 refine⟨⟨by simp,.inr ⟨w.heap.size,n,madeCells #[.slice none 0 0] n,by simp,Nat.le_refl _,heap_alloc_new w _,by simp,by unfold maxLen;omega,by simp[size_madeCells],?_⟩⟩,fun i u hu=>?_,?_⟩
 ·rw[toList_madeCells_one,List.take_of_length_le (by simp)]
 ·rw[List.getElem?_replicate]at hu
  split at hu
  ·rename_i hi
   obtain rfl:=Option.some.inj hu
   rw[List.getD_eq_getElem?_getD,List.getElem?_replicate,if_pos hi]
   exact Own.nil _ _
  ·cases hu
 ·refine List.pairwise_replicate.2 (.inr (.inl rfl))
end Go.Proofs.YtlhhinlghhjghaaGreatDoor
namespace Go.Proofs.YtlhhinlghhjghaaGreatDoor
open Go.RowKit Go.Sort
set_option linter.unusedVariables false
set_option linter.unusedSimpArgs false
set_option maxRecDepth 4000
variable {rs:List (List Nat)}{vs:List Value}{B:Nat}{v:Value}{w w':World}
theorem OwnV.push{s rv:Value}{r:List Nat}(h:OwnV w B v vs rs)(hr:Own w B rv r)(hd:∀u∈vs,Dis u rv)
  (htop:w'.ownsRow B 32 1 s (rs.length+1) (vs++[rv])) (hg:w.grownBy w' v.ownBlock):OwnV w' B s (vs++[rv]) (rs++[r]):=by
 have hl:=h.len
 have e1:vs.take rs.length++rv::vs.drop rs.length=vs++[rv]:=by rw[List.take_of_length_le (by omega),List.drop_of_length_le (by omega)]
 have e2:Zgj r rs.length rs=rs++[r]:=by unfold Zgj;simp
 have:=h.insert (p:=rs.length) hr hd (Nat.le_refl _) (by rw[e1];exact htop) hg
 rwa[e1,e2]at this
theorem ZlH{ops:Array Oper}{rest:List Oper}{o:Oper}{act:Act}{Q:Exit→Act→World→Prop}(hgd:o.guard=none)(s x:Operand)
  (ho:o.op=.call {callee:=.builtin .append,args:=#[s,x],argTypes:=#[298,298]}) (B:Nat) (v:Value) (vs:List Value) (rs:List (List Nat)) (bv:Value) (r:List Nat)
  (hs:act.eval s=v) (hx:act.eval x=.slice (some ⟨w.heap.size,0,none⟩) 1 1) (h:OwnV w B v vs rs) (hB:B≤w.heap.size) (hr:Own w B bv r) (hd:∀u∈vs,Dis u bv) (hn:rs.length≤1048576)
  (hK:∀s' w',OwnV w' B s' (vs++[bv]) (rs++[r])→w.grownBy w' v.ownBlock→wpList Tryz.prog ops Q rest (act.put o.dst s') w'):wpList Tryz.prog ops Q (o::rest) act (w.alloc (.cells #[bv] 32)):=by
 obtain⟨i0,hi,hz0,hz1,hz2⟩:=info_parts Ze1
 have hb:Below w.heap.size w (w.alloc (.cells #[bv] 32)):=(Below.refl _ _).alloc (Nat.le_refl _) _
 have h1:=h.below hb
 have hone:bv.oneCell'=true:=by
  obtain⟨a,c,e,_⟩:=hr.row
  rw[e];rfl
 refine wpList_append_own _ hgd s x 298 ho B 32 i0 (.slice none 0 0) 1 24 Tryz.underlying298 hi hz0 hz1 hz2 rfl (by decide) v rs.length vs hs h1.top ⟨w.heap.size,0,none⟩ 1 1 [bv] hx rfl (fun j u hj=>?_)
  (fun u hu=>by rw[List.mem_singleton.1 hu];exact hone) (by unfold maxLen;omega) (by omega) (Nat.le_trans hB hb.size) ?_
 ·match j with
  |0=>
   have hc:(w.alloc (.cells #[bv] 32)).cell? ⟨w.heap.size,0,none⟩=some bv:=by rw[World.cell?_alloc_at _ _ _ _ rfl];rfl
   simpa [Addr.add,hc]using hj
  |j+1=>simp at hj
 ·intro v' w' hown hgrow _
  exact hK v' w' (h1.push (hr.below hb) hd hown hgrow) (gb_trans (Zai hb _) hgrow (.inl rfl))
theorem ZsI{u:Value}{xs ys:List Nat}(h:Own w B u xs)(k:Own w' w.heap.size v ys):Dis u v:=by
 by_cases hu:u.ownBlock=none
 ·exact .inl hu
 ·right
  intro e
  obtain⟨b,hb⟩:=Option.ne_none_iff_exists'.1 hu
  have h1:=(h.lt hb).2
  have h2:=(k.lt (by rw[←e];exact hb)).1
  omega
theorem OwnV.dis_new{bv:Value}{ys:List Nat}(h:OwnV w B v vs rs)(k:Own w' w.heap.size bv ys):∀u∈vs,Dis u bv:=by
 intro u hu
 obtain⟨i,hi,rfl⟩:=List.getElem_of_mem hu
 exact ZsI (h.rows i _ (List.getElem?_eq_getElem hi)) k
theorem OwnV.shape(h:OwnV w B v vs rs):∃a c,v=.slice a rs.length c:=by
 obtain⟨a,c,e,_⟩:=h.vecs
 exact⟨a,c,e⟩
end Go.Proofs.YtlhhinlghhjghaaGreatDoor
namespace Go.Proofs.YtlhhinlghhjghaaGreatDoor
open Go.RowKit Go.Sort
set_option linter.unusedVariables false
set_option linter.unusedSimpArgs false
set_option maxRecDepth 4000
def vecsL(rs:List RV):List (List Nat):=rs.map fun r=>r.xs
def OwnW(w:World)(B:Nat)(v:Value)(ts:List RV):Prop:=w.ownsRow B 32 1 v ts.length (ts.map fun r=>.slice r.a r.n r.c)
theorem OwnW.vecs{w:World}{B:Nat}{v:Value}{ts:List RV}(h:OwnW w B v ts)(hr:RowsIn w ts):∃a c,v=.slice a ts.length c∧VecsAt w a ts.length (vecsL ts):=by
 have h':w.ownsRow B 32 1 v ts.length (ts.map fun r=>.slice r.a r.n r.c):=h
 rcases h.2 with⟨rfl,h0⟩|⟨g,cap,cur,rfl,hb,hg,hn,hm,hsz,ht⟩
 ·exact⟨none,0,by rw[h0],by simp[vecsL],.inl h0,fun b off i ai k ci e=>by cases e⟩
 ·have hcell:∀i,i<ts.length→w.cell? ⟨g,0+i,none⟩=some (.slice (ts.getD i .dflt).a (ts.getD i .dflt).n (ts.getD i .dflt).c):=fun i hi=>by
   rw[Nat.zero_add,h'.cellAt i (by omega),List.getElem?_map,List.getElem?_eq_getElem hi,List.getD_eq_getElem?_getD,List.getElem?_eq_getElem hi]
   rfl
  have hxs:∀i,i<ts.length→(vecsL ts).getD i []=(ts.getD i .dflt).xs:=fun i hi=>by
   unfold vecsL
   rw[List.getD_eq_getElem?_getD,List.getElem?_map,List.getElem?_eq_getElem hi,List.getD_eq_getElem?_getD,List.getElem?_eq_getElem hi]
   rfl
  refine⟨_,cap,rfl,by simp[vecsL],.inr ⟨g,0,rfl,fun i hi=>?_⟩,fun b off i ai k ci e hi hc=>?_⟩
  ·have hri:=hr.get hi
   rw[hxs i hi]
   refine⟨(ts.getD i .dflt).a,(ts.getD i .dflt).c,?_,?_⟩
   ·rw[hri.1.1];exact hcell i hi
   ·rw[hri.1.1];exact hri.1
  ·simp only[Option.some.injEq,Addr.mk.injEq,and_true]at e
   obtain⟨rfl,rfl⟩:=e
   rw[hcell i hi]at hc
   simp only[Option.some.injEq,Value.slice.injEq]at hc
   have:=(hr.get hi).2
   omega
theorem Zrb{w:World}{ts:List RV}(hr:RowsIn w ts)(hs:shortR ts):Fit 1048576 (vecsL ts):=fun b hb=>by
 obtain⟨r,hm,rfl⟩:=List.mem_map.1 hb
 obtain⟨i,hi,rfl⟩:=List.mem_iff_getElem.1 hm
 have h1:=hr _ (List.getElem_mem hi)
 have h2:=hs i
 rw[List.getD_eq_getElem?_getD,List.getElem?_eq_getElem hi]at h2
 simp only[Option.getD_some]at h2
 exact⟨h1.1.2.1,by rw[h1.1.1];omega⟩
def ZfR(ts:List RV)(k:Nat):List Value:=(ts.take k).map (fun r=>Value.slice r.a r.n r.c)++List.replicate (ts.length-k) (.slice none 0 0)
theorem Zik(ts:List RV):ZfR ts 0=List.replicate ts.length (.slice none 0 0):=by simp[ZfR]
theorem Zj4(ts:List RV):ZfR ts ts.length=ts.map fun r=>Value.slice r.a r.n r.c:=by simp[ZfR]
theorem ZiS(ts:List RV)(k:Nat)(hk:k<ts.length):(ZfR ts k).set k (.slice (ts.getD k .dflt).a (ts.getD k .dflt).n (ts.getD k .dflt).c)=ZfR ts (k+1):=by
 unfold ZfR
 have hl:((ts.take k).map fun r=>Value.slice r.a r.n r.c).length=k:=by simp;omega
 rw[List.set_append_right _ _ (by omega),hl,Nat.sub_self,List.take_succ_eq_append_getElem hk,List.map_append,List.append_assoc,show ts.length-k=(ts.length-(k+1))+1 by omega,List.replicate_succ,List.set_cons_zero]
 simp[List.getD_eq_getElem?_getD,List.getElem?_eq_getElem hk]
theorem Zye(n:Nat)(hn:n≤1048576)(wx:World):(Instr.makeSlice 298 (.int .i64 (n:Int)) (.int .i64 (n:Int))).run Tryz.prog wx=.ok (.slice (some ⟨wx.heap.size,0,none⟩) n n) (wx.alloc (.cells (madeCells #[.slice none 0 0] n) 32)):=by
 obtain⟨i0,hi0,hz0,hzs,hzb⟩:=info_parts Ze1
 have:=run_make (P:=Tryz.prog) wx 298 32 i0 (.slice none 0 0) Tryz.underlying298 hi0 hz0 .i64 .i64 (n:Int) (n:Int) (by omega) (Int.le_refl _) (by rw[hzb];omega) (by omega)
 rw[hzs]at this
 simpa [Value.cells]using this
theorem Zyb(w:World)(n:Nat)(hn:n≤1048576):
  (w.alloc (.cells (madeCells #[.slice none 0 0] n) 32)).ownsRow w.heap.size 32 1 (.slice (some ⟨w.heap.size,0,none⟩) n n) n (List.replicate n (.slice none 0 0)):=by
 refine⟨by simp,.inr ⟨w.heap.size,n,madeCells #[.slice none 0 0] n,by simp,Nat.le_refl _,heap_alloc_new w _,by simp,by unfold maxLen;omega,by simp[size_madeCells],?_⟩⟩
 rw[toList_madeCells_one,List.take_of_length_le (by simp)]
end Go.Proofs.YtlhhinlghhjghaaGreatDoor
namespace Go.Proofs.YtlhhinlghhjghaaGreatDoor.Ech
variable {B ks:List Nat}{b r x W:Nat}
def Tri(B:List Nat):Prop:=(∀b∈B,b≠0)∧B.Pairwise fun a b=>b.testBit (low a)=false
theorem Tri.nil:Tri []:=⟨(fun _ h=>by cases h),List.Pairwise.nil⟩
theorem Tri.tail(h:Tri (b::B)):Tri B:=⟨fun a ha=>h.1 a (List.mem_cons_of_mem _ ha),(List.pairwise_cons.1 h.2).2⟩
theorem Tri.head(h:Tri (b::B)):∀a∈B,a.testBit (low b)=false:=(List.pairwise_cons.1 h.2).1
theorem Tri.snoc(h:Tri B)(hr:r≠0)(hl:∀b∈B,r.testBit (low b)=false):Tri (B++[r]):=by
 refine⟨fun a ha=>?_,List.pairwise_append.2 ⟨h.2,by simp,fun a ha b hb=>?_⟩⟩
 ·rcases List.mem_append.1 ha with ha|ha
  ·exact h.1 a ha
  ·rw[List.mem_singleton.1 ha];exact hr
 ·rw[List.mem_singleton.1 hb];exact hl a ha
theorem ZAH(h:Sp [] x):x=0:=Sp.ind (B:=[]) (P:=fun x=>x=0) rfl (fun b x hb _=>by cases hb) h
theorem ZAc(h:Sp (b::B) x):Sp B x∨Sp B (b^^^x):=by
 refine Sp.ind (P:=fun x=>Sp B x∨Sp B (b^^^x)) (.inl .zero) (fun c x hc ih=>?_) h
 rcases List.mem_cons.1 hc with e|hc
 ·subst e
  rcases ih with ih|ih
  ·right
   rw[←Nat.xor_assoc,Nat.xor_self,Nat.zero_xor];exact ih
  ·exact .inl ih
 ·rcases ih with ih|ih
  ·exact .inl (.add hc ih)
  ·right
   rw[Zmf]
   exact .add hc ih
theorem ZxM{i:Nat}(h:∀b∈B,b.testBit i=false)(k:Sp B x):x.testBit i=false:=by
 refine Sp.ind (P:=fun x=>x.testBit i=false) (Nat.zero_testBit _) (fun b x hb ih=>?_) k
 rw[Nat.testBit_xor,h b hb,ih];rfl
theorem ZgC:∀{B:List Nat},Tri B→∀{x:Nat},Sp B x→(∀b∈B,x.testBit (low b)=false)→x=0
 |[],_,x,k,_=>ZAH k
 |b::B,h,x,k,hl=>by
  rcases ZAc k with k1|k1
  ·exact ZgC h.tail k1 fun a ha=>hl a (List.mem_cons_of_mem _ ha)
  ·have h1:=ZxM h.head k1
   rw[Nat.testBit_xor,low_bit (h.1 b List.mem_cons_self),hl b List.mem_cons_self]at h1
   cases h1
theorem ZhI:∀{B:List Nat},Tri B→∀v:Nat,(∀b∈B,(red B v).testBit (low b)=false)∧Sp B (v^^^red B v)
 |[],_,v=>⟨(fun _ h=>by cases h),by show Sp [] (v^^^v);rw[Nat.xor_self];exact .zero⟩
 |b::B,h,v=>by
  have hb:=h.1 b List.mem_cons_self
  have key:∀v':Nat,v'.testBit (low b)=false→Sp (b::B) (v^^^v')→(∀a∈b::B,(red B v').testBit (low a)=false)∧Sp (b::B) (v^^^red B v'):=fun v' h1 h2=>by
   obtain⟨k1,k2⟩:=ZhI h.tail v'
   have h3:=ZxM h.head k2
   rw[Nat.testBit_xor,h1]at h3
   refine⟨fun a ha=>?_,?_⟩
   ·rcases List.mem_cons.1 ha with e|ha
    ·rw[e];simpa using h3
    ·exact k1 a ha
   ·have:=h2.xor (k2.mono fun a ha=>List.mem_cons_of_mem _ ha)
    rwa[Nat.xor_assoc,←Nat.xor_assoc v' v',Nat.xor_self,Nat.zero_xor]at this
  show(∀a∈b::B,(red B (if b≠0∧v.testBit (low b)=true then v^^^b else v)).testBit (low a)=false)∧Sp (b::B) (v^^^red B (if b≠0∧v.testBit (low b)=true then v^^^b else v))
  by_cases hv:v.testBit (low b)=true
  ·rw[if_pos ⟨hb,hv⟩]
   refine key _ (by rw[Nat.testBit_xor,hv,low_bit hb];rfl) ?_
   rw[←Nat.xor_assoc,Nat.xor_self,Nat.zero_xor]
   exact .of_mem List.mem_cons_self
  ·rw[if_neg (fun k=>hv k.2)]
   refine key _ (by simpa using hv) ?_
   rw[Nat.xor_self];exact .zero
theorem ZmG{v:Nat}(h:Sp B (v^^^r))(k:Sp B v):Sp B r:=by
 have:=k.xor h
 rwa[←Nat.xor_assoc,Nat.xor_self,Nat.zero_xor]at this
theorem tri_zero(h:Tri B)(v:Nat):red B v=0↔Sp B v:=by
 obtain⟨h1,h2⟩:=ZhI h v
 constructor
 ·intro e
  rw[e,Nat.xor_zero]at h2
  exact h2
 ·intro k
  exact ZgC h (ZmG h2 k) h1
def addT(B:List Nat)(v:Nat):List Nat:=if red B v=0 then B else B++[red B v]
theorem Tri.addT(h:Tri B)(v:Nat):Tri (addT B v):=by
 unfold Ech.addT
 split
 ·exact h
 ·rename_i hr;exact h.snoc hr (ZhI h v).1
theorem Zl0(h:Tri B)(v x:Nat):Sp (addT B v) x↔Sp (B++[v]) x:=by
 have h2:=(ZhI h v).2
 unfold addT
 split
 ·rename_i hr
  have hv:=(tri_zero h v).1 hr
  refine⟨fun k=>k.mono fun a ha=>List.mem_append_left _ ha,fun k=>k.of fun a ha=>?_⟩
  rcases List.mem_append.1 ha with ha|ha
  ·exact .of_mem ha
  ·rw[List.mem_singleton.1 ha];exact hv
 ·constructor
  ·intro k
   refine k.of fun a ha=>?_
   rcases List.mem_append.1 ha with ha|ha
   ·exact .of_mem (List.mem_append_left _ ha)
   ·rw[List.mem_singleton.1 ha]
    exact ZmG (h2.mono fun a ha=>List.mem_append_left _ ha) (.of_mem (by simp))
  ·intro k
   refine k.of fun a ha=>?_
   rcases List.mem_append.1 ha with ha|ha
   ·exact .of_mem (List.mem_append_left _ ha)
   ·rw[List.mem_singleton.1 ha]
    refine ZmG (v:=red B v) ?_ (.of_mem (by simp))
    rw[Nat.xor_comm]
    exact h2.mono fun a ha=>List.mem_append_left _ ha
theorem foldl_addT:∀(l B:List Nat),Tri B→Tri (l.foldl addT B)∧∀x,Sp (l.foldl addT B) x↔Sp (B++l) x
 |[],B,h=>⟨h,fun x=>by simp⟩
 |v::l,B,h=>by
  obtain⟨h1,h2⟩:=foldl_addT l (addT B v) (h.addT v)
  refine⟨h1,fun x=>?_⟩
  show Sp (l.foldl addT (addT B v)) x↔_
  rw[h2]
  constructor
  ·intro k
   refine k.of fun a ha=>?_
   rcases List.mem_append.1 ha with ha|ha
   ·exact((Zl0 h v a).1 (.of_mem ha)).mono fun c hc=>by
     rcases List.mem_append.1 hc with hc|hc
     ·simp[hc]
     ·rw[List.mem_singleton.1 hc];simp
   ·exact .of_mem (by simp[ha])
  ·intro k
   refine k.of fun a ha=>?_
   rcases List.mem_append.1 ha with ha|ha
   ·exact((Zl0 h v a).2 (.of_mem (by simp[ha]))).mono fun c hc=>List.mem_append_left _ hc
   ·rcases List.mem_cons.1 ha with e|ha
    ·rw[e]
     exact((Zl0 h v v).2 (.of_mem (by simp))).mono fun c hc=>List.mem_append_left _ hc
    ·exact .of_mem (List.mem_append_right _ ha)
def lin(ks:List Nat)(c:Nat):Nat→Nat
 |0=>0
 |n+1=>lin ks c n^^^(if c.testBit n=true then ks.getD n 0 else 0)
theorem ZsB(ks:List Nat){c d:Nat}:∀n,(∀i,i<n→c.testBit i=d.testBit i)→lin ks c n=lin ks d n
 |0,_=>rfl
 |n+1,h=>by simp only[lin];rw[ZsB ks n fun i hi=>h i (by omega),h n (by omega)]
theorem Zod{ks':List Nat}(c:Nat):∀n,(∀i,i<n→ks.getD i 0=ks'.getD i 0)→lin ks c n=lin ks' c n
 |0,_=>rfl
 |n+1,h=>by simp only[lin];rw[Zod c n fun i hi=>h i (by omega),h n (by omega)]
theorem ZuH(ks:List Nat)(c d:Nat):∀n,lin ks (c^^^d) n=lin ks c n^^^lin ks d n
 |0=>by simp[lin]
 |n+1=>by
  simp only[lin,Nat.testBit_xor,ZuH ks c d n]
  generalize lin ks c n=x
  generalize lin ks d n=y
  generalize ks.getD n 0=z
  apply Nat.eq_of_testBit_eq
  intro i
  cases c.testBit n<;>cases d.testBit n<;>simp[Nat.testBit_xor]<;>cases x.testBit i<;>cases y.testBit i<;>cases z.testBit i<;>rfl
theorem Zoj(ks:List Nat):∀n,lin ks 0 n=0
 |0=>rfl
 |n+1=>by simp[lin,Zoj ks n]
theorem Zm5(ks:List Nat)(j:Nat):∀n,lin ks (2^j) n=if j<n then ks.getD j 0 else 0
 |0=>by simp[lin]
 |n+1=>by
  simp only[lin]
  rw[Zm5 ks j n,Nat.testBit_two_pow]
  by_cases h1:j<n
  ·have h3:decide (j=n)=false:=by simp;omega
   rw[if_pos h1,if_pos (show j<n+1 by omega),h3,if_neg (by decide),Nat.xor_zero]
  ·rw[if_neg h1]
   by_cases h2:j=n
   ·subst h2
    rw[if_pos (show j<j+1 by omega),decide_eq_true rfl,if_pos rfl,Nat.zero_xor]
   ·have h3:decide (j=n)=false:=by simpa using h2
    rw[if_neg (show¬j<n+1 by omega),h3,if_neg (by decide),Nat.xor_zero]
theorem Zom(ks:List Nat)(c:Nat):∀n,n≤ks.length→Sp ks (lin ks c n)
 |0,_=>.zero
 |n+1,h=>by
  simp only[lin]
  refine(Zom ks c n (by omega)).xor ?_
  split
  ·refine .of_mem ?_
   rw[List.getD_eq_getElem?_getD,List.getElem?_eq_getElem (show n<ks.length by omega)]
   exact List.getElem_mem _
  ·exact .zero
theorem lin_of_sp(h:Sp ks x):∃c,c<2^ks.length∧lin ks c ks.length=x:=by
 refine Sp.ind (P:=fun x=> ∃c,c<2^ks.length∧lin ks c ks.length=x) ⟨0,Nat.two_pow_pos _,Zoj _ _⟩ (fun b x hb ih=>?_) h
 obtain⟨c,hc,rfl⟩:=ih
 obtain⟨j,hj,rfl⟩:=List.getElem_of_mem hb
 refine⟨2^j^^^c,Nat.xor_lt_two_pow (Nat.pow_lt_pow_right (by decide) hj) hc,?_⟩
 rw[ZuH,Zm5,if_pos hj,List.getD_eq_getElem?_getD,List.getElem?_eq_getElem hj]
 rfl
def Ind(ks:List Nat):Prop:=∀c,c<2^ks.length→lin ks c ks.length=0→c=0
theorem Ind.nil:Ind []:=fun c hc _=>by simp at hc;exact hc
theorem ZsU{c n:Nat}(h:c<2^(n+1))(hb:c.testBit n=false):c<2^n:=by
 rw[Nat.pow_succ]at h
 rw[Nat.testBit_eq_decide_div_mod_eq]at hb
 have h1:c/2^n<2:=Nat.div_lt_of_lt_mul h
 have h2:c/2^n=0:=by
  have h3:¬c/2^n%2=1:=of_decide_eq_false hb
  generalize c/2^n=q at*
  omega
 rcases Nat.lt_or_ge c (2^n)with h3|h3
 ·exact h3
 ·have:=Nat.div_pos h3 (Nat.two_pow_pos n);omega
theorem Ind.snoc(h:Ind ks)(hr:¬Sp ks r):Ind (ks++[r]):=by
 intro c hc h0
 rw[List.length_append,List.length_singleton]at hc h0
 simp only[lin]at h0
 rw[Zod (ks':=ks) c ks.length fun i hi=>by rw[List.getD_eq_getElem?_getD,List.getElem?_append_left hi,←List.getD_eq_getElem?_getD]]at h0
 have e:(ks++[r]).getD ks.length 0=r:=by simp[List.getD_eq_getElem?_getD]
 rw[e]at h0
 by_cases hb:c.testBit ks.length=true
 ·rw[if_pos hb]at h0
  exact absurd (by rw[←eq_of_xor h0];exact Zom ks c ks.length (Nat.le_refl _)) hr
 ·rw[if_neg hb,Nat.xor_zero]at h0
  exact h c (ZsU hc (by simpa using hb)) h0
theorem low_lt{d:Nat}(h0:d≠0)(h:d<2^W):low d<W:=by
 rcases Nat.lt_or_ge (low d) W with h1|h1
 ·exact h1
 ·have h2:d<2^low d:=Nat.lt_of_lt_of_le h (Nat.pow_le_pow_right (by decide) h1)
  have:=low_bit h0
  rw[Nat.testBit_lt_two_pow h2]at this
  cases this
theorem ZkT{c i:Nat}(h:i<W):(c<<<W).testBit i=false:=by
 rw[Nat.testBit_shiftLeft]
 simp;omega
theorem shift_high(c W i:Nat):(c<<<W).testBit (W+i)=c.testBit i:=by
 rw[Nat.testBit_shiftLeft]
 simp
theorem ZnI{R:List Nat}{P:Nat→Nat}(hP:∀x y,P (x^^^y)=P x^^^P y)(c:Nat):
  ∀n,(∀i,i<n→R.getD i 0=P (ks.getD i 0)^^^2^(W+i))→lin R c n=P (lin ks c n)^^^((c%2^n)<<<W)
 |0,_=>by
  have h0:P 0=0:=by have:=hP 0 0;simpa using this
  simp[lin,h0,Nat.mod_one]
 |n+1,h=>by
  have h0:P 0=0:=by have:=hP 0 0;simpa using this
  simp only[lin]
  rw[ZnI hP c n fun i hi=>h i (by omega),h n (by omega),hP]
  have hm:(c%2^(n+1))<<<W=((c%2^n)<<<W)^^^(if c.testBit n=true then 2^(W+n)else 0):=by
   apply Nat.eq_of_testBit_eq
   intro i
   rw[Nat.testBit_xor,Nat.testBit_shiftLeft,Nat.testBit_shiftLeft,Nat.testBit_mod_two_pow,Nat.testBit_mod_two_pow]
   by_cases h1:i<W
   ·have:decide (i≥W)=false:=by simp;omega
    rw[this]
    split
    ·rw[Nat.testBit_two_pow];simp;omega
    ·simp
   ·obtain⟨j,rfl⟩:∃j,i=W+j:=⟨i-W,by omega⟩
    rw[Nat.add_sub_cancel_left]
    have:decide (W+j≥W)=true:=by simp
    rw[this]
    by_cases h2:j=n
    ·subst h2
     split<;>rename_i hb<;>simp[hb]
    ·have h3:(2^(W+n)).testBit (W+j)=false:=by rw[Nat.testBit_two_pow];simp;omega
     have h4:decide (j<n+1)=decide (j<n):=by by_cases h5:j<n<;>simp[h5]<;>omega
     rw[h4]
     split
     ·rw[h3];simp
     ·simp
  rw[hm]
  by_cases hb:c.testBit n=true
  ·simp only[hb,if_true]
   generalize P (lin ks c n)=x
   generalize P (ks.getD n 0)=y
   generalize (c%2^n)<<<W=z
   generalize 2^(W+n)=u
   apply Nat.eq_of_testBit_eq
   intro i
   simp only[Nat.testBit_xor]
   cases x.testBit i<;>cases y.testBit i<;>cases z.testBit i<;>cases u.testBit i<;>rfl
  ·simp[hb,h0]
theorem mark_red{R:List Nat}{P:Nat→Nat}(hP:∀x y,P (x^^^y)=P x^^^P y)(hlt:∀x,Sp ks x→P x<2^W)(hinj:∀x,Sp ks x→P x=0→x=0)(hI:Ind ks)
  (hR:R.length=ks.length) (hRi:∀i,i<ks.length→R.getD i 0=P (ks.getD i 0)^^^2^(W+i)) (hB:Tri B) (hs:∀x,Sp B x↔Sp R x) {c:Nat} (hc:c<2^ks.length):
  red B (P (lin ks c ks.length))=c<<<W:=by
 have hlin:=fun d=>ZnI (ks:=ks) (R:=R) (W:=W) hP d ks.length hRi
 have hlows:∀b∈B,low b<W:=fun b hb=>by
  obtain⟨d,hd,he⟩:=lin_of_sp ((hs b).1 (.of_mem hb))
  rw[hR]at hd he
  rw[hlin d,Nat.mod_eq_of_lt hd]at he
  have hsp:=Zom ks d ks.length (Nat.le_refl _)
  have hne:P (lin ks d ks.length)≠0:=fun e=>by
   have h1:=hI d hd (hinj _ hsp e)
   subst h1
   rw[e]at he
   simp at he
   exact hB.1 b hb he.symm
  have h2:=low_lt hne (hlt _ hsp)
  have h3:b.testBit (low (P (lin ks d ks.length)))=true:=by rw[←he,Nat.testBit_xor,low_bit hne,ZkT h2];rfl
  exact Nat.lt_of_le_of_lt (ZxW h3) h2
 obtain⟨h1,h2⟩:=ZhI hB (P (lin ks c ks.length))
 have h3:Sp B (P (lin ks c ks.length)^^^c<<<W):=by
  refine(hs _).2 ?_
  have:=hlin c
  rw[Nat.mod_eq_of_lt hc]at this
  rw[←this]
  exact Zom R c ks.length (by omega)
 apply eq_of_xor
 refine ZgC hB ?_ fun b hb=>?_
 ·have:=h2.xor h3
  rwa[Zir]at this
 ·rw[Nat.testBit_xor,h1 b hb,ZkT (hlows b hb)];rfl
def proj(fs:List Nat)(x:Nat):Nat→Nat
 |0=>0
 |n+1=>proj fs x n^^^(if x.testBit (fs.getD n 0)=true then 2^n else 0)
theorem proj_bit(fs:List Nat)(x j:Nat):∀n,(proj fs x n).testBit j=(decide (j<n)&&x.testBit (fs.getD j 0))
 |0=>by simp[proj]
 |n+1=>by
  simp only[proj]
  rw[Nat.testBit_xor,proj_bit fs x j n]
  by_cases h1:j=n
  ·subst h1
   have h0:decide (j<j)=false:=by simp
   have h2:decide (j<j+1)=true:=by simp
   rw[h0,h2]
   generalize x.testBit (fs.getD j 0)=bb
   cases bb<;>simp
  ·have h2:decide (j<n+1)=decide (j<n):=by by_cases h5:j<n<;>simp[h5]<;>omega
   rw[h2]
   split
   ·rw[Nat.testBit_two_pow]
    have:decide (n=j)=false:=by simp;omega
    rw[this];simp
   ·simp
theorem proj_xor(fs:List Nat)(n x y:Nat):proj fs (x^^^y) n=proj fs x n^^^proj fs y n:=by
 apply Nat.eq_of_testBit_eq
 intro j
 rw[Nat.testBit_xor,proj_bit,proj_bit,proj_bit,Nat.testBit_xor]
 cases decide (j<n)<;>cases x.testBit (fs.getD j 0)<;>cases y.testBit (fs.getD j 0)<;>rfl
theorem proj_lt(fs:List Nat)(x n:Nat):proj fs x n<2^n:=by
 apply Nat.lt_pow_two_of_testBit
 intro j hj
 rw[proj_bit]
 simp;omega
theorem proj_inj(hB:Tri B){fs:List Nat}(hf:fs=B.map low){x:Nat}(hx:Sp B x)(h:proj fs x B.length=0):x=0:=by
 refine ZgC hB hx fun b hb=>?_
 obtain⟨j,hj,rfl⟩:=List.getElem_of_mem hb
 have h1:=proj_bit fs x j B.length
 rw[h,hf]at h1
 simpa [hj,List.getD_eq_getElem?_getD,List.getElem?_eq_getElem hj]using h1.symm
end Go.Proofs.YtlhhinlghhjghaaGreatDoor.Ech
