/-
  Slices of ints of any sign in memory: what can be read ('IntzAt'), what is the call's own ('OwnZ'): made, written, appended to. No condition.
  Contracts of peel.units, peel.Ripple and bucketlineref13.Ripple.
  Slices of texts that are made and written.
  A map of rows of one's own by their places; what a peeling holds in memory.
-/
import Derived.Test.YtlhhinlghhjghaaGreatDoorU0
import Derived.Test.YtlhhinlghhjghaaGreatDoorU4
import Derived.OwnWalk
import Derived.Laws.MakeOwn
import Derived.Deep.QuietTactic
import Derived.BigQuiet
import Derived.Test.YtlhhinlghhjghaaGreatDoorU2
import Derived.Maps.RangeWalk
import Derived.Maps.OwnSet
import Derived.Deep.RegionHeld
namespace Go.Proofs.YtlhhinlghhjghaaGreatDoor
open Go.RowKit
set_option linter.unusedVariables false
set_option linter.unusedSimpArgs false
set_option maxRecDepth 4000
set_option maxHeartbeats 8000000
variable {xs:List Int}{n B:Nat}{v:Value}{w:World}
def cellsZ(xs:List Int):List Value:=xs.map fun x=>Value.int .i64 x
theorem Zaq(xs:List Int):(cellsZ xs).length=xs.length:=by simp[cellsZ]
theorem Zbm(xs:List Int)(i:Nat)(h:i<xs.length):(cellsZ xs)[i]? =some (.int .i64 (xs.getD i 0)):=by
 simp[cellsZ,List.getElem?_eq_getElem h,List.getD_eq_getElem?_getD]
theorem Zfx(xs:List Int)(i:Nat)(x:Int):(cellsZ xs).set i (.int .i64 x)=cellsZ (xs.set i x):=by
 simp[cellsZ,List.map_set]
def IntzAt(w:World)(a:Option Addr)(n:Nat)(xs:List Int):Prop:=
 xs.length=n∧(n=0∨∃b off,a=some ⟨b,off,none⟩∧∀i,i<n→w.cell? ⟨b,off+i,none⟩=some (.int .i64 (xs.getD i 0)))
theorem IntzAt.at{a:Option Addr}(h:IntzAt w a n xs){i:Nat}(hi:i<n):
  ∃b off,a=some ⟨b,off,none⟩∧∀i,i<n→w.cell? ⟨b,off+i,none⟩=some (.int .i64 (xs.getD i 0)):=by
 rcases h.2 with h0|h0
 ·omega
 ·exact h0
theorem IntzAt.below{w':World}{a:Option Addr}(h:IntzAt w a n xs)(hb:Below w.heap.size w w'):IntzAt w' a n xs:=by
 refine⟨h.1,?_⟩
 rcases h.2 with h0|⟨b,off,rfl,hc⟩
 ·exact .inl h0
 ·exact .inr ⟨b,off,rfl,fun i hi=>(hb.cell (World.block_lt_of_cell? w _ (hc i hi))).trans (hc i hi)⟩
def OwnZ(w:World)(B:Nat)(v:Value)(xs:List Int):Prop:=w.ownsRow B 3 1 v xs.length (cellsZ xs)
theorem OwnZ.ints(h:OwnZ w B v xs):∃a c,v=.slice a xs.length c∧IntzAt w a xs.length xs:=by
 have ho':w.ownsRow B 3 1 v xs.length (cellsZ xs):=h
 rcases h.2 with⟨rfl,h0⟩|⟨g,cap,cur,rfl,hb,hg,hn,hm,hsz,ht⟩
 ·exact⟨Option.none,0,by rw[h0],rfl,.inl h0⟩
 ·refine⟨_,cap,rfl,rfl,.inr ⟨g,0,rfl,fun i hi=>?_⟩⟩
  rw[Nat.zero_add,ho'.cellAt i (by omega),Zbm xs i hi]
theorem OwnZ.nil(w:World)(B:Nat):OwnZ w B (.slice none 0 0) []:=World.ownsRow_nil _ _ _ _
theorem OwnZ.mono{B':Nat}(h:OwnZ w B v xs)(hB:B'≤B):OwnZ w B' v xs:=by
 refine⟨h.1,?_⟩
 rcases h.2 with h0|⟨g,cap,cur,h1,hb,r⟩
 ·exact .inl h0
 ·exact .inr ⟨g,cap,cur,h1,Nat.le_trans hB hb,r⟩
theorem OwnZ.below{w':World}(h:OwnZ w B v xs)(hb:Below w.heap.size w w'):OwnZ w' B v xs:=by
 refine⟨h.1,?_⟩
 rcases h.2 with h0|⟨g,cap,cur,h1,hg,hgg,r⟩
 ·exact .inl h0
 ·exact .inr ⟨g,cap,cur,h1,hg,(hb.block g (Array.getElem?_eq_some_iff.1 hgg).1).trans hgg,r⟩
theorem OwnZ.at(h:OwnZ w B v xs)(hn:0<xs.length):
  ∃g cap,v=.slice (some ⟨g,0,none⟩) xs.length cap∧B≤g∧g<w.heap.size∧(∀i,i<xs.length→w.cell? ⟨g,i,none⟩=some (.int .i64 (xs.getD i 0)))∧∀i,w.frozen? ⟨g,i,none⟩=false:=by
 have ho':w.ownsRow B 3 1 v xs.length (cellsZ xs):=h
 rcases h.2 with⟨rfl,h0⟩|⟨g,cap,cur,rfl,hb,hg,hn,hm,hsz,ht⟩
 ·omega
 ·refine⟨g,cap,rfl,hb,(Array.getElem?_eq_some_iff.1 hg).1,fun i hi=>?_,fun i=>ho'.frozenAt i⟩
  rw[ho'.cellAt i (by omega),Zbm xs i hi]
theorem OwnZ.stored{g cap:Nat}(h:OwnZ w B (.slice (some ⟨g,0,none⟩) n cap) xs)(i:Nat)(x:Int):
  OwnZ (w.setCell ⟨g,i,none⟩ (.int .i64 x)) B (.slice (some ⟨g,0,none⟩) n cap) (xs.set i x):=by
 obtain rfl:n=xs.length:=by
  obtain⟨a,c,e,_⟩:=h.ints
  simp only[Value.slice.injEq]at e
  exact e.2.1
 have ho:w.ownsRow B 3 1 (.slice (some ⟨g,0,none⟩) xs.length cap) xs.length (cellsZ xs):=h
 have:=(ho.stored i (.int .i64 x)).1
 rw[Zfx]at this
 show World.ownsRow _ B 3 1 _ (xs.set i x).length _
 rw[List.length_set]
 exact this
theorem Zhr:(Tryz.prog.info? 3).map (fun i=>(i.zero,i.size,i.bytes))=some (some (.int .i64 0),1,8):=by kernel_rfl
theorem Zfh(w:World)(n:Nat)(hn:n≤1048576)(xs:List Int)(hxs:xs=List.replicate n 0):
  OwnZ (w.alloc (.cells (madeCells #[.int .i64 0] n) 3)) w.heap.size (.slice (some ⟨w.heap.size,0,none⟩) n n) xs:=by
 subst hxs
 refine⟨by simp[cellsZ],.inr ⟨w.heap.size,n,madeCells #[.int .i64 0] n,by simp,Nat.le_refl _,heap_alloc_new w _,by simp,by unfold maxLen;omega,by simp[size_madeCells],?_⟩⟩
 rw[toList_madeCells_one,List.take_of_length_le (by simp)]
 simp[cellsZ]
theorem ZeU(n:Nat)(hn:n≤1048576)(wx:World):(Instr.makeSlice 83 (.int .i64 (n:Int)) (.int .i64 (n:Int))).run Tryz.prog wx=.ok (.slice (some ⟨wx.heap.size,0,none⟩) n n) (wx.alloc (.cells (madeCells #[.int .i64 0] n) 3)):=by
 obtain⟨i0,hi0,hz0,hzs,hzb⟩:=info_parts Zhr
 have:=run_make (P:=Tryz.prog) wx 83 3 i0 (.int .i64 0) Tryz.underlying83 hi0 hz0 .i64 .i64 (n:Int) (n:Int) (by omega) (Int.le_refl _) (by rw[hzb];omega) (by omega)
 rw[hzs]at this
 simpa [Value.cells]using this
def Za3(fs:List Int)(k:Nat):List Int:=fs.take k++List.replicate (fs.length-k) 0
theorem ZdV(fs:List Int):Za3 fs 0=List.replicate fs.length 0:=by simp[Za3]
theorem ZeB(fs:List Int):Za3 fs fs.length=fs:=by simp[Za3]
theorem ZbQ(fs:List Int)(k:Nat)(hk:k≤fs.length):(Za3 fs k).length=fs.length:=by simp[Za3];omega
theorem ZdP(fs:List Int)(k:Nat)(hk:k<fs.length):(Za3 fs k).set k (fs.getD k 0)=Za3 fs (k+1):=by
 unfold Za3
 have hl:(fs.take k).length=k:=by simp;omega
 rw[List.set_append_right _ _ (by omega),hl,Nat.sub_self,List.take_succ_eq_append_getElem hk,List.append_assoc,show fs.length-k=(fs.length-(k+1))+1 by omega,List.replicate_succ,List.set_cons_zero]
 simp[List.getD_eq_getElem?_getD,List.getElem?_eq_getElem hk]
theorem Zf3{ops:Array Oper}{rest:List Oper}{o:Oper}{act:Act}{Q:Exit→Act→World→Prop}(hgd:o.guard=none)(s x:Operand)
  (ho:o.op=.call {callee:=.builtin .append,args:=#[s,x],argTypes:=#[83,83]}) (B:Nat) (v:Value) (xs:List Int) (y:Int)
  (hs:act.eval s=v) (hx:act.eval x=.slice (some ⟨w.heap.size,0,none⟩) 1 1) (h:OwnZ w B v xs) (hB:B≤w.heap.size) (hn:xs.length≤1048576)
  (hK:∀s' w',OwnZ w' B s' (xs++[y])→Below B w w'→wpList Tryz.prog ops Q rest (act.put o.dst s') w'):wpList Tryz.prog ops Q (o::rest) act (w.alloc (.cells #[.int .i64 y] 3)):=by
 obtain⟨i0,hi,hz0,hz1,hz2⟩:=info_parts Zhr
 have hb:Below w.heap.size w (w.alloc (.cells #[.int .i64 y] 3)):=(Below.refl _ _).alloc (Nat.le_refl _) _
 have h1:(w.alloc (.cells #[.int .i64 y] 3)).ownsRow B 3 1 v xs.length (cellsZ xs):=h.below hb
 refine wpList_append_own _ hgd s x 83 ho B 3 i0 (.int .i64 0) 1 8 Tryz.underlying83 hi hz0 hz1 hz2 rfl (by decide) v xs.length (cellsZ xs) hs h1 ⟨w.heap.size,0,none⟩ 1 1 [.int .i64 y] hx rfl (fun j u hj=>?_)
  (fun u hu=>by rw[List.mem_singleton.1 hu];rfl) (by unfold maxLen;omega) (by omega) (Nat.le_trans hB hb.size) ?_
 ·match j with
  |0=>
   have hc:(w.alloc (.cells #[.int .i64 y] 3)).cell? ⟨w.heap.size,0,none⟩=some (.int .i64 y):=by rw[World.cell?_alloc_at _ _ _ _ rfl];rfl
   simpa [Addr.add,hc]using hj
  |j+1=>simp at hj
 ·intro v' w' hown hgrow _
  refine hK v' w' ?_ ((hb.mono hB).grown hgrow (Nat.le_trans hB hb.size) fun k hk=>(h1.lt k hk).1)
  rw[show cellsZ xs++[.int .i64 y]=cellsZ (xs++[y]) by simp[cellsZ]]at hown
  show w'.ownsRow B 3 1 v' (xs++[y]).length (cellsZ (xs++[y]))
  rw[List.length_append]
  exact hown
theorem Zni(x:Int)(ts:Array TypeId)(t:TypeId)(w:World):(Builtin.max_ ts t #[.int .i64 0,.int .i64 x]).run Tryz.prog w=.ok (.int .i64 ((x.toNat:Nat):Int)) w:=by
 rw[run_max_int2]
 congr 2
 split<;>omega
theorem Zu2(x:Nat)(ts:Array TypeId)(t:TypeId)(w:World):(Builtin.max_ ts t #[.int .i64 1,.int .i64 (x:Int)]).run Tryz.prog w=.ok (.int .i64 ((max 1 x:Nat):Int)) w:=by
 rw[run_max_int2]
 congr 2
 split<;>omega
theorem Zfl(x y:Int)(ts:Array TypeId)(t:TypeId)(w:World):(Builtin.max_ ts t #[.int .i64 x,.int .i64 y]).run Tryz.prog w=.ok (.int .i64 (max x y)) w:=by
 rw[run_max_int2]
 congr 2
 split<;>omega
theorem ZgB(x y:Int)(ts:Array TypeId)(t:TypeId)(w:World):(Builtin.min_ ts t #[.int .i64 x,.int .i64 y]).run Tryz.prog w=.ok (.int .i64 (min x y)) w:=by
 rw[run_min_int2]
 congr 2
 split<;>omega
end Go.Proofs.YtlhhinlghhjghaaGreatDoor
namespace Go.Proofs.YtlhhinlghhjghaaGreatDoor
open Go.RowKit Go.Sort
set_option linter.unusedVariables false
set_option linter.unusedSimpArgs false
set_option maxRecDepth 4000
set_option maxHeartbeats 8000000
theorem Own.at'{w:World}{B:Nat}{a:Option Addr}{n c:Nat}{xs:List Nat}(h:Own w B (.slice a n c) xs):n=xs.length∧RowAt w a xs.length xs:=by
 obtain⟨a1,c1,e,hr⟩:=h.row
 simp only[Value.slice.injEq]at e
 obtain⟨rfl,rfl,rfl⟩:=e
 exact⟨rfl,hr⟩
end Go.Proofs.YtlhhinlghhjghaaGreatDoor
namespace Go.Proofs.YtlhhinlghhjghaaGreatDoor
open Go.RowKit
set_option linter.unusedVariables false
set_option linter.unusedSimpArgs false
set_option maxRecDepth 4000
set_option maxHeartbeats 8000000
theorem OwnT.at{w:World}{B:Nat}{v:Value}{ss:List ByteArray}(h:OwnT w B v ss)(hn:0<ss.length):
  ∃g cap,v=.slice (some ⟨g,0,none⟩) ss.length cap∧B≤g∧g<w.heap.size∧(∀i,i<ss.length→w.cell? ⟨g,i,none⟩=some (.string (ss.getD i ByteArray.empty)))∧∀i,w.frozen? ⟨g,i,none⟩=false:=by
 have ho':w.ownsRow B 9 1 v ss.length (Zax ss):=h
 rcases h.2 with⟨rfl,h0⟩|⟨g,cap,cur,rfl,hb,hg,hn,hm,hsz,ht⟩
 ·omega
 ·refine⟨g,cap,rfl,hb,(Array.getElem?_eq_some_iff.1 hg).1,fun i hi=>?_,fun i=>ho'.frozenAt i⟩
  rw[ho'.cellAt i (by omega),Zh8 ss i hi]
theorem OwnT.stored{w:World}{B g cap n:Nat}{ss:List ByteArray}(h:OwnT w B (.slice (some ⟨g,0,none⟩) n cap) ss)(i:Nat)(x:ByteArray):
  OwnT (w.setCell ⟨g,i,none⟩ (.string x)) B (.slice (some ⟨g,0,none⟩) n cap) (ss.set i x):=by
 obtain rfl:n=ss.length:=by
  obtain⟨a,c,e,_⟩:=h.texts
  simp only[Value.slice.injEq]at e
  exact e.2.1
 have ho:w.ownsRow B 9 1 (.slice (some ⟨g,0,none⟩) ss.length cap) ss.length (Zax ss):=h
 have:=(ho.stored i (.string x)).1
 rw[show(Zax ss).set i (.string x)=Zax (ss.set i x) by simp[Zax,List.map_set]]at this
 show World.ownsRow _ B 9 1 _ (ss.set i x).length _
 rw[List.length_set]
 exact this
theorem ZcN(w:World)(n:Nat)(hn:n≤1048576)(ss:List ByteArray)(hss:ss=List.replicate n ByteArray.empty):
  OwnT (w.alloc (.cells (madeCells #[.string ByteArray.empty] n) 9)) w.heap.size (.slice (some ⟨w.heap.size,0,none⟩) n n) ss:=by
 subst hss
 refine⟨by simp[Zax],.inr ⟨w.heap.size,n,madeCells #[.string ByteArray.empty] n,by simp,Nat.le_refl _,heap_alloc_new w _,by simp,by unfold maxLen;omega,by simp[size_madeCells],?_⟩⟩
 rw[toList_madeCells_one,List.take_of_length_le (by simp)]
 simp[Zax]
theorem ZfO(n:Nat)(hn:n≤1048576)(wx:World):(Instr.makeSlice 50 (.int .i64 (n:Int)) (.int .i64 (n:Int))).run Tryz.prog wx=.ok (.slice (some ⟨wx.heap.size,0,none⟩) n n) (wx.alloc (.cells (madeCells #[.string ByteArray.empty] n) 9)):=by
 obtain⟨i0,hi0,hz0,hzs,hzb⟩:=info_parts Ze7
 have:=run_make (P:=Tryz.prog) wx 50 9 i0 (.string ByteArray.empty) Tryz.underlying50 hi0 hz0 .i64 .i64 (n:Int) (n:Int) (by omega) (Int.le_refl _) (by rw[hzb];omega) (by omega)
 rw[hzs]at this
 simpa [Value.cells]using this
end Go.Proofs.YtlhhinlghhjghaaGreatDoor
namespace Go.Proofs.YtlhhinlghhjghaaGreatDoor
open Go.RowKit Go.Sort
set_option linter.unusedVariables false
set_option linter.unusedSimpArgs false
set_option maxRecDepth 4000
variable {D:DataW Value}{bs:List ByteArray}{xs kn:List Nat}{p bm N sz B g n c j:Nat}{S:Nat→Bool}{f:Nat→Nat×Nat}{vs:Nat→Value}{w w':World}
def slElem:Value→Option (DataW Value×List MemPlace)
 | .slice a n c=>some (.held (.slice a n c),[])
 |_=>none
theorem Zed{v:Value}{y:DataW Value×List MemPlace}(h:slElem v=some y):∃a n c,v=.slice a n c∧y=(.held v,[]):=by
 cases v<;>simp[slElem]at h
 exact⟨_,_,_,rfl,h.symm⟩
theorem lawI:Maps.Keyed Tryz.prog 3:=Maps.int_keyed Tryz.underlying3
theorem Zht(w:World):(zeroValue 32).run Tryz.prog w=.ok (.slice none 0 0) w:=by kernel_rfl
theorem ZAh(h:p≤9223372036854775807):(Lit.int .i64 (p:Int)).wf=true:=by
 exact WalkArith.wf_i64 (by omega)
theorem key_nat(h:p≤9223372036854775807):keyOf Tryz.prog 3 (.int .i64 (p:Int))=some (.int .i64 (p:Int)):=Maps.keyOf_int_mk Tryz.underlying3 (ZAh h)
theorem Zi0{q:Nat}(h:Lit.int .i64 (p:Int)=Lit.int .i64 (q:Int)):p=q:=by
 injection h with _ h
 omega
theorem ZA4(p:Nat):WideAt.IsKeyLit (.int .i64 (p:Int)):=trivial
theorem Zxn(p q:Nat):(Lit.int .i64 (p:Int)).sameKey (.int .i64 (q:Int))=decide (p=q):=by
 by_cases e:p=q
 ·subst e;rw[WideAt.sameKey_self (ZA4 p)];simp
 ·rw[Maps.sameKey_ne (fun h=>e (Zi0 h)),decide_eq_false e]
def RdAs(D:DataW Value)(S:Nat→Bool)(vs:Nat→Value):Prop:=
 (∀kl,Maps.has D kl=true→∃p:Nat,S p=true∧kl=.int .i64 (p:Int))∧∀p:Nat,S p=true→∀z,D.atKey (.int .i64 (p:Int)) z=.held (vs p)
theorem RdAs.has(h:RdAs D S vs)(p:Nat):Maps.has D (.int .i64 (p:Int))=S p:=by
 cases hS:S p
 ·cases hh:Maps.has D (.int .i64 (p:Int))
  ·rfl
  ·obtain⟨q,hq,e⟩:=h.1 _ hh
   rw[Zi0 e,hq]at hS
   cases hS
 ·exact Maps.has_true_of_atKey (h.2 p hS)
theorem RdAs.empty(vs:Nat→Value):RdAs (.map []) (fun _=>false) vs:=⟨fun kl h=>by simp[Maps.has]at h,fun p h=>by cases h⟩
theorem RdAs.put(h:RdAs D S vs)(hD:Maps.IsMap D){p:Nat}(v:Value):
  RdAs (D.put (.int .i64 (p:Int)) (.held v)) (fun q=>decide (q=p)||S q) (fun q=>if q=p then v else vs q):=by
 refine⟨fun kl hk=>?_,fun q hq z=>?_⟩
 ·by_cases e:kl=.int .i64 (p:Int)
  ·exact⟨p,by simp,e⟩
  ·rw[Maps.has_put_other e]at hk
   obtain⟨q,hq,rfl⟩:=h.1 kl hk
   exact⟨q,by simp[hq],rfl⟩
 ·by_cases e:q=p
  ·subst e
   rw[Maps.atKey_put_same hD (ZA4 q)];simp
  ·rw[Maps.atKey_put_other (fun h=>e (Zi0 h))]
   simp only[e,if_false]
   exact h.2 q (by simpa [e]using hq) z
theorem RdAs.del(h:RdAs D S vs)(p:Nat):RdAs (D.del (.int .i64 (p:Int))) (fun q=>S q&& !decide (q=p)) vs:=by
 refine⟨fun kl hk=>?_,fun q hq z=>?_⟩
 ·by_cases e:kl=.int .i64 (p:Int)
  ·rw[e,Maps.has_del_same]at hk;cases hk
  ·rw[Maps.has_del_other e]at hk
   obtain⟨q,hq,rfl⟩:=h.1 kl hk
   have:q≠p:=fun h=>e (by rw[h])
   exact⟨q,by simp[hq,this],rfl⟩
 ·rw[Bool.and_eq_true]at hq
  have:q≠p:=by simpa using hq.2
  rw[Maps.atKey_del_other (fun h=>this (Zi0 h))]
  exact h.2 q hq.1 z
theorem RdAs.congr{S':Nat→Bool}{vs':Nat→Value}(h:RdAs D S vs)(hS:∀p,S p=S' p)(hv:∀p,S p=true→vs p=vs' p):RdAs D S' vs':=by
 refine⟨fun kl hk=>?_,fun p hp z=>?_⟩
 ·obtain⟨p,hp,e⟩:=h.1 kl hk
  exact⟨p,by rw[←hS];exact hp,e⟩
 ·rw[←hS]at hp
  rw[←hv p hp]
  exact h.2 p hp z
section
variable {w:World} {ops:Array Oper} {rest:List Oper} {o:Oper} {act:Act} {Q:Exit→Act→World→Prop}
def slv(sz:Nat)(f:Nat→Nat×Nat)(p:Nat):Value:=.slice (some ⟨(f p).1,0,none⟩) sz (f p).2
theorem ZhY(hg:o.guard=none)(it:Operand)(hop:o.op=Op.next it false)(bm r N sz:Nat)(D:DataW Value)(left:Lit→Bool)(cnt:Nat)(S:Nat→Bool)(f:Nat→Nat×Nat)(hR:RdAs D S (slv sz f))
  (hit:act.eval it=.pointer (some ⟨r,0,none⟩)) (h:w.ranges Tryz.prog 3 slElem bm r N D left cnt)
  (hDone:(∀kl,left kl=false)→wpList Tryz.prog ops Q rest (act.put o.dst (.tuple #[.bool false])) w)
  (hMore:∀(p gp cp:Nat) (w':World) (cnt':Nat),f p=(gp,cp)→S p=true→left (.int .i64 (p:Int))=true→w'.ranges Tryz.prog 3 slElem bm r N D (fun z=>left z&& !z.sameKey (.int .i64 (p:Int))) cnt'→cnt'<cnt→
   w.grownBy w' (some r)→(Instr.entry (.pointer (some ⟨r,0,none⟩))).run Tryz.prog w'=.ok (.tuple #[.int .i64 (p:Int),.slice (some ⟨gp,0,none⟩) sz cp]) w'→wpList Tryz.prog ops Q rest (act.put o.dst (.tuple #[.bool true,.int .i64 (p:Int),.slice (some ⟨gp,0,none⟩) sz cp])) w'):
  wpList Tryz.prog ops Q (o::rest) act w:=by
 refine wpList_plain hg fun K' hK'=>?_
 unfold Oper.wp
 rcases h.next lawI o.type with⟨h0,hl,hrun⟩|⟨key,v,kl,y,w',cnt',hkey,hlk,hv,hat,hrun,hrg,hlt,hgr,hsz,hen⟩
 ·simp[execOp,hop,hit,hrun,Result.andThen]
  exact hK' _ _ (hDone hl)
 ·obtain⟨p,hp,rfl⟩:=hR.1 kl (Maps.has_true_of_atKey hat)
  obtain⟨x,rfl,ex,hwx⟩:=Maps.keyOf_int_inv Tryz.underlying3 hkey
  injection ex with _ ex
  subst ex
  obtain⟨a,n,c,rfl,rfl⟩:=Zed hv
  have e:=hat (.held (.slice none 0 0))
  rw[hR.2 p hp]at e
  simp only[DataW.held.injEq,slv,Value.slice.injEq]at e
  obtain⟨rfl,rfl,rfl⟩:=e
  simp[execOp,hop,hit,hrun,Result.andThen]
  exact hK' _ _ (hMore p (f p).1 (f p).2 w' cnt' rfl hp hlk hrg hlt hgr hen)
end
theorem ZyS(h:w.ownsMap Tryz.prog 3 slElem bm N D)(hR:RdAs D S (slv sz f))(hp:S p=true)(hpm:p≤9223372036854775807):
  (Instr.lookup 393 (.map (some bm)) (.int .i64 (p:Int)) false).run Tryz.prog w=.ok (.slice (some ⟨(f p).1,0,none⟩) sz (f p).2) w:=by
 obtain⟨v,ps,hrun,hv⟩:=h.lookup lawI Tryz.underlying393 (Zht w) (zd:=.held (.slice none 0 0)) (zp:=[]) rfl (key_nat hpm)
 obtain⟨a,n,c,rfl,e⟩:=Zed hv
 rw[hR.2 p hp]at e
 simp only[Prod.mk.injEq,DataW.held.injEq,slv,Value.slice.injEq]at e
 obtain⟨⟨rfl,rfl,rfl⟩,_⟩:=e
 exact hrun
theorem Zo0(h:w.ownsMap Tryz.prog 3 slElem bm N D)(hR:RdAs D S (slv sz f))(hp:S p=true)(hpm:p≤9223372036854775807):
  (Instr.lookup 393 (.map (some bm)) (.int .i64 (p:Int)) true).run Tryz.prog w=.ok (.tuple #[.slice (some ⟨(f p).1,0,none⟩) sz (f p).2,.bool true]) w:=by
 obtain⟨v,ps,hrun,hv⟩:=h.look_ok lawI Tryz.underlying393 (Zht w) (zd:=.held (.slice none 0 0)) (zp:=[]) rfl (key_nat hpm)
 obtain⟨a,n,c,rfl,e⟩:=Zed hv
 rw[hR.2 p hp]at e
 simp only[Prod.mk.injEq,DataW.held.injEq,slv,Value.slice.injEq]at e
 obtain⟨⟨rfl,rfl,rfl⟩,_⟩:=e
 rw[hR.has p,hp]at hrun
 exact hrun
theorem ZpU(h:w.ownsMap Tryz.prog 3 slElem bm N D)(hR:RdAs D S (slv sz f))(hp:S p=false)(hpm:p≤9223372036854775807):
  ∃a n c,(Instr.lookup 393 (.map (some bm)) (.int .i64 (p:Int)) true).run Tryz.prog w=.ok (.tuple #[.slice a n c,.bool false]) w:=by
 obtain⟨v,ps,hrun,hv⟩:=h.look_ok lawI Tryz.underlying393 (Zht w) (zd:=.held (.slice none 0 0)) (zp:=[]) rfl (key_nat hpm)
 obtain⟨a,n,c,rfl,e⟩:=Zed hv
 rw[hR.has p,hp]at hrun
 exact⟨a,n,c,hrun⟩
structure Lf(w:World)(B sz:Nat)(S:Nat→Bool)(f:Nat→Nat×Nat)(cs:Nat→List Nat):Prop where
 own:∀p,S p=true→Own w B (.slice (some ⟨(f p).1,0,none⟩) sz (f p).2) (cs p)∧(cs p).length=sz
 two:∀p q,S p=true→S q=true→p≠q→(f p).1≠(f q).1
theorem Lf.below{cs:Nat→List Nat}(h:Lf w B sz S f cs)(hb:Below w.heap.size w w'):Lf w' B sz S f cs:=⟨fun p hp=>⟨(h.own p hp).1.below hb,(h.own p hp).2⟩,h.two⟩
theorem Lf.kept{cs:Nat→List Nat}(h:Lf w B sz S f cs)(hg:w.grownBy w' (some g))(hn:∀p,S p=true→(f p).1≠g):Lf w' B sz S f cs:=
 ⟨fun p hp=>⟨(h.own p hp).1.kept hg (.inr fun e=>hn p hp (by simpa [Value.ownBlock]using e)),(h.own p hp).2⟩,h.two⟩
theorem ZdO(h:Own w B (.slice (some ⟨g,0,none⟩) n c) xs)(hm:w.ownsMap Tryz.prog 3 slElem bm N D):g≠bm:=by
 rcases h.2.2 with⟨e,_⟩|⟨g',cap,cur,e,_,hg,_⟩
 ·cases e
 ·simp only[Value.slice.injEq,Option.some.injEq,Addr.mk.injEq,and_true]at e
  obtain⟨es,clock,hb,_⟩:=hm
  intro hne
  rw[←hne,e.1,hg]at hb
  cases hb
theorem Zfv{r cnt:Nat}{left:Lit→Bool}(h:Own w B (.slice (some ⟨g,0,none⟩) n c) xs)(hm:w.ranges Tryz.prog 3 slElem bm r N D left cnt):g≠r:=by
 rcases h.2.2 with⟨e,_⟩|⟨g',cap,cur,e,_,hg,_⟩
 ·cases e
 ·simp only[Value.slice.injEq,Option.some.injEq,Addr.mk.injEq,and_true]at e
  obtain⟨es,clock,since,seen,c0,_,_,_,_,hr,_⟩:=hm
  intro hne
  rw[←hne,e.1,hg]at hr
  cases hr
structure PV where
 g:Nat
 a:Option Addr
 n:Nat
 c:Nat
 kg:Nat
 kc:Nat
 bg:Nat
 bc:Nat
 bm:Nat
structure PlAt(w:World)(B:Nat)(v:PV)(kn:List Nat)(bs:List ByteArray):Prop where
 box:w.heap[v.g]? =some (.cells #[.slice v.a v.n v.c,.slice (some ⟨v.kg,0,none⟩) kn.length v.kc,.slice (some ⟨v.bg,0,none⟩) bs.length v.bc,.map (some v.bm)] 395 (0,0))
 known:Own w B (.slice (some ⟨v.kg,0,none⟩) kn.length v.kc) kn
 blocks:OwnT w B (.slice (some ⟨v.bg,0,none⟩) bs.length v.bc) bs
theorem PlAt.cells{v:PV}(h:PlAt w B v kn bs):
  w.cell? ⟨v.g,0,none⟩=some (.slice v.a v.n v.c)∧w.cell? ⟨v.g,1,none⟩=some (.slice (some ⟨v.kg,0,none⟩) kn.length v.kc)∧w.cell? ⟨v.g,2,none⟩=some (.slice (some ⟨v.bg,0,none⟩) bs.length v.bc)∧w.cell? ⟨v.g,3,none⟩=some (.map (some v.bm)):=by
 have:=h.box
 refine⟨?_,?_,?_,?_⟩<;>simp[World.cell?,this]
theorem PlAt.lt{v:PV}(h:PlAt w B v kn bs):v.g<w.heap.size:=(Array.getElem?_eq_some_iff.1 h.box).1
theorem PlAt.below{v:PV}(h:PlAt w B v kn bs)(hb:Below w.heap.size w w'):PlAt w' B v kn bs:=⟨(hb.block v.g h.lt).trans h.box,h.known.below hb,h.blocks.below hb⟩
theorem OwnT.blk{ss:List ByteArray}(h:OwnT w B (.slice (some ⟨g,0,none⟩) n c) ss):∃cur,w.heap[g]? =some (.cells cur 9 (0,0)):=by
 rcases h.2 with⟨e,_⟩|⟨g',cap,cur,e,_,hg,_⟩
 ·cases e
 ·simp only[Value.slice.injEq,Option.some.injEq,Addr.mk.injEq,and_true]at e
  exact⟨cur,by rw[e.1];exact hg⟩
theorem Own.blk(h:Own w B (.slice (some ⟨g,0,none⟩) n c) xs):∃cur,w.heap[g]? =some (.cells cur 69 (0,0)):=by
 rcases h.2.2 with⟨e,_⟩|⟨g',cap,cur,e,_,hg,_⟩
 ·cases e
 ·simp only[Value.slice.injEq,Option.some.injEq,Addr.mk.injEq,and_true]at e
  exact⟨cur,by rw[e.1];exact hg⟩
theorem PlAt.kept{v:PV}(h:PlAt w B v kn bs)(hg:w.grownBy w' (some j))(h1:v.g≠j)(h2:v.kg≠j)(h3:v.bg≠j):PlAt w' B v kn bs:=
 ⟨(hg.block v.g h.lt (by simpa using h1)).trans h.box,h.known.kept hg (.inr fun e=>h2 (by simpa [Value.ownBlock]using e)),World.ownsRow.kept h.blocks hg (.inr fun e=>h3 (by simpa [Value.ownBlock]using e))⟩
theorem PlAt.row{B':Nat}{v:PV}(h:PlAt w B v kn bs)(hg:w.grownBy w' (some j))(ho:Own w B' (.slice (some ⟨j,0,none⟩) n c) xs)(h2:v.kg≠j):PlAt w' B v kn bs:=by
 obtain⟨cur,hc⟩:=ho.blk
 obtain⟨cur2,hc2⟩:=h.blocks.blk
 refine h.kept hg (fun e=>?_) h2 (fun e=>?_)
 ·have:=h.box
  rw[e,hc]at this
  simp only[Option.some.injEq,Obj.cells.injEq]at this
  exact absurd this.2.1 (by decide)
 ·rw[e,hc]at hc2
  simp only[Option.some.injEq,Obj.cells.injEq]at hc2
  exact absurd hc2.2.1 (by decide)
theorem PlAt.nocells{v:PV}(h:PlAt w B v kn bs)(hg:w.grownBy w' (some j))(hj:∀cur t m,w.heap[j]? ≠some (.cells cur t m)):PlAt w' B v kn bs:=by
 obtain⟨cur,hc⟩:=h.known.blk
 obtain⟨cur2,hc2⟩:=h.blocks.blk
 exact h.kept hg (fun e=>hj _ _ _ (by rw[←e];exact h.box)) (fun e=>hj _ _ _ (by rw[←e];exact hc)) (fun e=>hj _ _ _ (by rw[←e];exact hc2))
end Go.Proofs.YtlhhinlghhjghaaGreatDoor
