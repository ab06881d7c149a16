/- Laws for the proof. -/
import Derived.Test.YtfpmnekaockodaaGreatDoorU3
import Derived.Maps.RangeWalk
import Derived.Maps.OwnSet
import Derived.Deep.RegionHeld
set_option linter.all false
open Go.Proofs.Tryz
open Go.Proofs.Tryz renaming prog->U
open Go.Value renaming slice->α,ownBlock->ξ
open Go.IntKind renaming i64->β
open Option renaming some->γ,none->ε
open Go.Value.slice renaming injEq->δ
open Go renaming World->ζ,Value->θ
open Option.some renaming injEq->η
open List renaming replicate->ι,getD_eq_getElem?_getD->κ,getElem?_eq_getElem->μ,take_of_length_le->ν
namespace Go.Proofs.YtfpmnekaockodaaGreatDoor
open Go.RowKit Go.Sort
set_option maxRecDepth 4000
set_option maxHeartbeats 8000000
variable {xs:List Int}{n B:Nat}{v:θ}{w:ζ}
def cellsZ(xs:List Int):List θ:=xs.map fun x=>Value.int β x
def Gi(xs:List Int):(cellsZ xs).length=xs.length:=by simp[cellsZ]
def Hp(xs:List Int)(i:Nat)(h:i<xs.length):(cellsZ xs)[i]? =γ (.int β (xs.getD i 0)):=by
 simp[cellsZ,μ h,κ]
def Oj(xs:List Int)(i:Nat)(x:Int):(cellsZ xs).set i (.int β x)=cellsZ (xs.set i x):=by
 simp[cellsZ,List.map_set]
def IntzAt(w:ζ)(a:Option Addr)(n:Nat)(xs:List Int):Prop:=
 xs.length=n/\(n=0\/∃b off,a=γ ⟨b,off,ε⟩/\∀i,i<n->w.cell? ⟨b,off+i,ε⟩=γ (.int β (xs.getD i 0)))
def IntzAt.at{a:Option Addr}(h:IntzAt w a n xs){i:Nat}(d:i<n):
  ∃b off,a=γ ⟨b,off,ε⟩/\∀i,i<n->w.cell? ⟨b,off+i,ε⟩=γ (.int β (xs.getD i 0)):=by
 rcases h.2 with c|c
 ·omega
 ·exact c
def IntzAt.below{w':ζ}{a:Option Addr}(h:IntzAt w a n xs)(g:Below w.heap.size w w'):IntzAt w' a n xs:=by
 refine⟨h.1,?_⟩;rcases h.2 with e|⟨b,off,rfl,c⟩
 ·exact .inl e
 ·exact .inr ⟨b,off,rfl,fun i d=>(g.cell (World.block_lt_of_cell? w _ (c i d))).trans (c i d)⟩
def Am(w:ζ)(B:Nat)(v:θ)(xs:List Int):Prop:=w.ownsRow B 3 1 v xs.length (cellsZ xs)
def Am.ints(h:Am w B v xs):∃a c,v=α a xs.length c/\IntzAt w a xs.length xs:=by
 have b:w.ownsRow B 3 1 v xs.length (cellsZ xs):=h;rcases h.2 with⟨rfl,d⟩|⟨g,cap,e,rfl,m,q,s,r,l,ht⟩
 ·exact⟨Option.none,0,by rw[d],rfl,.inl d⟩
 ·refine⟨_,cap,rfl,rfl,.inr ⟨g,0,rfl,fun i k=>?_⟩⟩
  rw[Nat.zero_add,b.cellAt i (by omega),Hp xs i k]
def Am.nil(w:ζ)(B:Nat):Am w B (α none 0 0) []:=World.ownsRow_nil _ _ _ _
def Am.mono{B':Nat}(h:Am w B v xs)(d:B'<=B):Am w B' v xs:=by
 refine⟨h.1,?_⟩;rcases h.2 with b|⟨g,cap,a,c,e,r⟩
 ·exact .inl b
 ·exact .inr ⟨g,cap,a,c,Nat.le_trans d e,r⟩
def Am.below{w':ζ}(h:Am w B v xs)(e:Below w.heap.size w w'):Am w' B v xs:=by
 refine⟨h.1,?_⟩;rcases h.2 with c|⟨g,cap,b,d,i,a,r⟩
 ·exact .inl c
 ·exact .inr ⟨g,cap,b,d,i,(e.block g (Array.getElem?_eq_some_iff.1 a).1).trans a,r⟩
def Am.at(h:Am w B v xs)(k:0<xs.length):
  ∃g cap,v=α (γ ⟨g,0,ε⟩) xs.length cap/\B<=g/\g<w.heap.size/\(∀i,i<xs.length->w.cell? ⟨g,i,ε⟩=γ (.int β (xs.getD i 0)))/\∀i,w.frozen? ⟨g,i,ε⟩=false:=by
 have a:w.ownsRow B 3 1 v xs.length (cellsZ xs):=h;rcases h.2 with⟨rfl,m⟩|⟨g,cap,b,rfl,c,d,k,q,l,ht⟩
 ·omega
 ·refine⟨g,cap,rfl,c,(Array.getElem?_eq_some_iff.1 d).1,fun i e=>?_,fun i=>a.frozenAt i⟩
  rw[a.cellAt i (by omega),Hp xs i e]
def Am.stored{g cap:Nat}(h:Am w B (α (γ ⟨g,0,ε⟩) n cap) xs)(i:Nat)(x:Int):
  Am (w.setCell ⟨g,i,ε⟩ (.int β x)) B (α (γ ⟨g,0,ε⟩) n cap) (xs.set i x):=by
 obtain rfl:n=xs.length:=by
  obtain⟨a,c,e,_⟩:=h.ints;simp only[δ]at e;exact e.2.1
 have b:w.ownsRow B 3 1 (α (γ ⟨g,0,ε⟩) xs.length cap) xs.length (cellsZ xs):=h;have:=(b.stored i (.int β x)).1;rw[Oj]at this;show World.ownsRow _ B 3 1 _ (xs.set i x).length _;rw[List.length_set];exact this
def OL:(Tryz.prog.info? 3).map (fun i=>(i.zero,i.size,i.bytes))=γ (γ (.int β 0),1,8):=by kernel_rfl
def Me(w:ζ)(n:Nat)(b:n<=1048576)(xs:List Int)(a:xs=ι n 0):
  Am (w.alloc (.cells (madeCells #[.int β 0] n) 3)) w.heap.size (α (γ ⟨w.heap.size,0,ε⟩) n n) xs:=by
 subst a;refine⟨by simp[cellsZ],.inr ⟨w.heap.size,n,madeCells #[.int β 0] n,by simp,Nat.le_refl _,heap_alloc_new w _,by simp,by unfold maxLen;omega,by simp[size_madeCells],?_⟩⟩;rw[toList_madeCells_one,ν (by simp)];simp[cellsZ]
def Mf(n:Nat)(g:n<=1048576)(wx:ζ):(Instr.makeSlice 27 (.int β (n:Int)) (.int β (n:Int))).run U wx=.ok (α (γ ⟨wx.heap.size,0,ε⟩) n n) (wx.alloc (.cells (madeCells #[.int β 0] n) 3)):=by
 obtain⟨e,a,b,d,c⟩:=info_parts OL;have:=run_make (P:=U) wx 27 3 e (.int β 0) underlying27 a b β β (n:Int) (n:Int) (by omega) (Int.le_refl _) (by rw[c];omega) (by omega);rw[d]at this;simpa [Value.cells]using this
def Da(fs:List Int)(k:Nat):List Int:=fs.take k++ι (fs.length-k) 0
def NI(fs:List Int):Da fs 0=ι fs.length 0:=by simp[Da]
def NS(fs:List Int):Da fs fs.length=fs:=by simp[Da]
def LG(fs:List Int)(k:Nat)(a:k<=fs.length):(Da fs k).length=fs.length:=by simp[Da];omega
def NH(fs:List Int)(k:Nat)(a:k<fs.length):(Da fs k).set k (fs.getD k 0)=Da fs (k+1):=by
 unfold Da;have b:(fs.take k).length=k:=by simp;omega
 rw[List.set_append_right _ _ (by omega),b,Nat.sub_self,List.take_succ_eq_append_getElem a,List.append_assoc,show fs.length-k=(fs.length-(k+1))+1 by omega,List.replicate_succ,List.set_cons_zero];simp[κ,μ a]
def RO{ops:Array Oper}{rest:List Oper}{o:Oper}{act:Act}{Q:Exit->Act->ζ->Prop}(e:o.guard=ε)(s x:Operand)
  (H:o.op=.call {callee:=.builtin .append,args:=#[s,x],argTypes:=#[27,27]}) (B:Nat) (v:θ) (xs:List Int) (y:Int)
  (I:act.eval s=v) (K:act.eval x=α (γ ⟨w.heap.size,0,ε⟩) 1 1) (h:Am w B v xs) (d:B<=w.heap.size) (O:xs.length<=1048576)
  (z:∀r w',Am w' B r (xs++[y])->Below B w w'->wpList U ops Q rest (act.put o.dst r) w'):wpList U ops Q (o::rest) act (w.alloc (.cells #[.int β y] 3)):=by
 obtain⟨L,C,g,i,l⟩:=info_parts OL;have c:Below w.heap.size w (w.alloc (.cells #[.int β y] 3)):=(Below.refl _ _).alloc (Nat.le_refl _) _;have m:(w.alloc (.cells #[.int β y] 3)).ownsRow B 3 1 v xs.length (cellsZ xs):=h.below c
 refine wpList_append_own _ e s x 27 H B 3 L (.int β 0) 1 8 underlying27 C g i l rfl (by decide) v xs.length (cellsZ xs) I m ⟨w.heap.size,0,ε⟩ 1 1 [.int β y] K rfl (fun j u q=>?_)
  (fun u J=>by rw[List.mem_singleton.1 J];rfl) (by unfold maxLen;omega) (by omega) (Nat.le_trans d c.size) ?_
 ·match j with
  |0=>
   have A:(w.alloc (.cells #[.int β y] 3)).cell? ⟨w.heap.size,0,ε⟩=γ (.int β y):=by rw[World.cell?_alloc_at _ _ _ _ rfl];rfl
   simpa [Addr.add,A]using q
  |j+1=>simp at q
 ·intro v' w' a b _
  refine z v' w' ?_ ((c.mono d).grown b (Nat.le_trans d c.size) fun k E=>(m.lt k E).1);rw[show cellsZ xs++[.int β y]=cellsZ (xs++[y]) by simp[cellsZ]]at a;show w'.ownsRow B 3 1 v' (xs++[y]).length (cellsZ (xs++[y]));rw[List.length_append];exact a
def Wk(x:Int)(a:Array TypeId)(t:TypeId)(w:ζ):(Builtin.max_ a t #[.int β 0,.int β x]).run U w=.ok (.int β ((x.toNat:Nat):Int)) w:=by
 rw[run_max_int2];congr 2;split<;>omega
def qQ(x:Nat)(a:Array TypeId)(t:TypeId)(w:ζ):(Builtin.max_ a t #[.int β 1,.int β (x:Int)]).run U w=.ok (.int β ((max 1 x:Nat):Int)) w:=by
 rw[run_max_int2];congr 2;split<;>omega
def JJ(x y:Int)(a:Array TypeId)(t:TypeId)(w:ζ):(Builtin.max_ a t #[.int β x,.int β y]).run U w=.ok (.int β (max x y)) w:=by
 rw[run_max_int2];congr 2;split<;>omega
def Iz(x y:Int)(a:Array TypeId)(t:TypeId)(w:ζ):(Builtin.min_ a t #[.int β x,.int β y]).run U w=.ok (.int β (min x y)) w:=by
 rw[run_min_int2];congr 2;split<;>omega
def Own.at'{w:ζ}{B:Nat}{a:Option Addr}{n c:Nat}{xs:List Nat}(h:Own w B (α a n c) xs):n=xs.length/\RowAt w a xs.length xs:=by
 obtain⟨d,c1,e,b⟩:=h.row;simp only[δ]at e;obtain⟨rfl,rfl,rfl⟩:=e;exact⟨rfl,b⟩
def Ar.at{w:ζ}{B:Nat}{v:θ}{ss:List ByteArray}(h:Ar w B v ss)(k:0<ss.length):
  ∃g cap,v=α (γ ⟨g,0,ε⟩) ss.length cap/\B<=g/\g<w.heap.size/\(∀i,i<ss.length->w.cell? ⟨g,i,ε⟩=γ (.string (ss.getD i ByteArray.empty)))/\∀i,w.frozen? ⟨g,i,ε⟩=false:=by
 have a:w.ownsRow B 9 1 v ss.length (BE ss):=h;rcases h.2 with⟨rfl,m⟩|⟨g,cap,b,rfl,c,d,k,q,l,ht⟩
 ·omega
 ·refine⟨g,cap,rfl,c,(Array.getElem?_eq_some_iff.1 d).1,fun i e=>?_,fun i=>a.frozenAt i⟩
  rw[a.cellAt i (by omega),Sn ss i e]
def Ar.stored{w:ζ}{B g cap n:Nat}{ss:List ByteArray}(h:Ar w B (α (γ ⟨g,0,ε⟩) n cap) ss)(i:Nat)(x:ByteArray):
  Ar (w.setCell ⟨g,i,ε⟩ (.string x)) B (α (γ ⟨g,0,ε⟩) n cap) (ss.set i x):=by
 obtain rfl:n=ss.length:=by
  obtain⟨a,c,e,_⟩:=h.texts;simp only[δ]at e;exact e.2.1
 have b:w.ownsRow B 9 1 (α (γ ⟨g,0,ε⟩) ss.length cap) ss.length (BE ss):=h;have:=(b.stored i (.string x)).1;rw[show(BE ss).set i (.string x)=BE (ss.set i x) by simp[BE,List.map_set]]at this;show World.ownsRow _ B 9 1 _ (ss.set i x).length _;rw[List.length_set];exact this
def KJ(w:ζ)(n:Nat)(b:n<=1048576)(ss:List ByteArray)(a:ss=ι n ByteArray.empty):
  Ar (w.alloc (.cells (madeCells #[.string ByteArray.empty] n) 9)) w.heap.size (α (γ ⟨w.heap.size,0,ε⟩) n n) ss:=by
 subst a;refine⟨by simp[BE],.inr ⟨w.heap.size,n,madeCells #[.string ByteArray.empty] n,by simp,Nat.le_refl _,heap_alloc_new w _,by simp,by unfold maxLen;omega,by simp[size_madeCells],?_⟩⟩;rw[toList_madeCells_one,ν (by simp)];simp[BE]
def Ov(n:Nat)(g:n<=1048576)(wx:ζ):(Instr.makeSlice 66 (.int β (n:Int)) (.int β (n:Int))).run U wx=.ok (α (γ ⟨wx.heap.size,0,ε⟩) n n) (wx.alloc (.cells (madeCells #[.string ByteArray.empty] n) 9)):=by
 obtain⟨e,a,b,d,c⟩:=info_parts Mb;have:=run_make (P:=U) wx 66 9 e (.string ByteArray.empty) underlying66 a b β β (n:Int) (n:Int) (by omega) (Int.le_refl _) (by rw[c];omega) (by omega);rw[d]at this;simpa [Value.cells]using this
variable {D:DataW θ}{bs:List ByteArray}{xs kn:List Nat}{p N sz B j:Nat}{S:Nat->Bool}{f:Nat->Nat×Nat}{vs:Nat->θ}{w w':ζ}
def CM:θ->Option (DataW θ×List MemPlace)
 | α a n c=>γ (.held (α a n c),[])
 |_=>ε
def LW{v:θ}{y:DataW θ×List MemPlace}(h:CM v=γ y):∃a n c,v=α a n c/\y=(.held v,[]):=by
 cases v<;>simp[CM]at h;exact⟨_,_,_,rfl,h.symm⟩
def IV:Maps.Keyed U 3:=Maps.int_keyed underlying3
def OS(w:ζ):(zeroValue 40).run U w=.ok (α none 0 0) w:=by kernel_rfl
def bK(h:p<=9223372036854775807):(Lit.int β (p:Int)).wf=true:=by
 exact WalkArith.wf_i64 (by omega)
def K3(h:p<=9223372036854775807):keyOf U 3 (.int β (p:Int))=γ (.int β (p:Int)):=Maps.keyOf_int_mk underlying3 (bK h)
def MU{q:Nat}(h:Lit.int β (p:Int)=Lit.int β (q:Int)):p=q:=by
 injection h with _ h;omega
def Rf(p:Nat):WideAt.IsKeyLit (.int β (p:Int)):=trivial
def ri(p q:Nat):(Lit.int β (p:Int)).sameKey (.int β (q:Int))=decide (p=q):=by
 by_cases e:p=q
 ·subst e;rw[WideAt.sameKey_self (Rf p)];simp
 ·rw[Maps.sameKey_ne (fun h=>e (MU h)),decide_eq_false e]
def A3(D:DataW θ)(S:Nat->Bool)(vs:Nat->θ):Prop:=
 (∀a,Maps.has D a=true->∃p:Nat,S p=true/\a=.int β (p:Int))/\∀p:Nat,S p=true->∀z,D.atKey (.int β (p:Int)) z=.held (vs p)
def A3.has(h:A3 D S vs)(p:Nat):Maps.has D (.int β (p:Int))=S p:=by
 cases a:S p
 ·cases b:Maps.has D (.int β (p:Int))
  ·rfl
  ·obtain⟨q,c,e⟩:=h.1 _ b
   rw[MU e,c]at a;cases a
 ·exact Maps.has_true_of_atKey (h.2 p a)
def A3.empty(vs:Nat->θ):A3 (.map []) (fun _=>false) vs:=⟨fun a h=>by simp[Maps.has]at h,fun p h=>by cases h⟩
def A3.put(h:A3 D S vs)(d:Maps.IsMap D){p:Nat}(v:θ):
  A3 (D.put (.int β (p:Int)) (.held v)) (fun q=>decide (q=p)||S q) (fun q=>if q=p then v else vs q):=by
 refine⟨fun c b=>?_,fun q a z=>?_⟩
 ·by_cases e:c=.int β (p:Int)
  ·exact⟨p,by simp,e⟩
  ·rw[Maps.has_put_other e]at b
   obtain⟨q,a,rfl⟩:=h.1 c b;exact⟨q,by simp[a],rfl⟩
 ·by_cases e:q=p
  ·subst e
   rw[Maps.atKey_put_same d (Rf q)];simp
  ·rw[Maps.atKey_put_other (fun h=>e (MU h))]
   simp only[e,if_false];exact h.2 q (by simpa [e]using a) z
def A3.del(h:A3 D S vs)(p:Nat):A3 (D.del (.int β (p:Int))) (fun q=>S q&& !decide (q=p)) vs:=by
 refine⟨fun c b=>?_,fun q a z=>?_⟩
 ·by_cases e:c=.int β (p:Int)
  ·rw[e,Maps.has_del_same]at b;cases b
  ·rw[Maps.has_del_other e]at b
   obtain⟨q,a,rfl⟩:=h.1 c b;have:q≠p:=fun h=>e (by rw[h]);exact⟨q,by simp[a,this],rfl⟩
 ·rw[Bool.and_eq_true]at a
  have:q≠p:=by simpa using a.2
  rw[Maps.atKey_del_other (fun h=>this (MU h))];exact h.2 q a.1 z
def A3.congr{b:Nat->Bool}{a:Nat->θ}(h:A3 D S vs)(c:∀p,S p=b p)(g:∀p,S p=true->vs p=a p):A3 D b a:=by
 refine⟨fun i d=>?_,fun p hp z=>?_⟩
 ·obtain⟨p,hp,e⟩:=h.1 i d
  exact⟨p,by rw[<-c];exact hp,e⟩
 ·rw[<-c]at hp
  rw[<-g p hp];exact h.2 p hp z
section
variable {w:ζ} {ops:Array Oper} {rest:List Oper} {o:Oper} {act:Act} {Q:Exit->Act->ζ->Prop}
def Em(sz:Nat)(f:Nat->Nat×Nat)(p:Nat):θ:=α (γ ⟨(f p).1,0,ε⟩) sz (f p).2
def dt(P:o.guard=ε)(it:Operand)(s:o.op=Op.next it false)(bm r N sz:Nat)(D:DataW θ)(left:Lit->Bool)(cnt:Nat)(S:Nat->Bool)(f:Nat->Nat×Nat)(O:A3 D S (Em sz f))
  (m:act.eval it=.pointer (γ ⟨r,0,ε⟩)) (h:w.ranges U 3 CM bm r N D left cnt)
  (g:(∀L,left L=false)->wpList U ops Q rest (act.put o.dst (.tuple #[.bool false])) w)
  (i:∀(p C u:Nat) (w':ζ) (b:Nat),f p=(C,u)->S p=true->left (.int β (p:Int))=true->w'.ranges U 3 CM bm r N D (fun z=>left z&& !z.sameKey (.int β (p:Int))) b->b<cnt->
   w.grownBy w' (γ r)->(Instr.entry (.pointer (γ ⟨r,0,ε⟩))).run U w'=.ok (.tuple #[.int β (p:Int),α (γ ⟨C,0,ε⟩) sz u]) w'->wpList U ops Q rest (act.put o.dst (.tuple #[.bool true,.int β (p:Int),α (γ ⟨C,0,ε⟩) sz u])) w'):
  wpList U ops Q (o::rest) act w:=by
 refine wpList_plain P fun Y k=>?_;unfold Oper.wp;rcases h.next IV o.type with⟨Z,R,d⟩|⟨X,v,L,y,w',b,q,I,V,l,d,K,J,H,T,E⟩
 ·simp[execOp,s,m,d,Result.andThen]
  exact k _ _ (g R)
 ·obtain⟨p,hp,rfl⟩:=O.1 L (Maps.has_true_of_atKey l)
  obtain⟨x,rfl,A,W⟩:=Maps.keyOf_int_inv underlying3 q;injection A with _ A;subst A;obtain⟨a,n,c,rfl,rfl⟩:=LW V;have e:=l (.held (α none 0 0));rw[O.2 p hp]at e;simp only[DataW.held.injEq,Em,δ]at e;obtain⟨rfl,rfl,rfl⟩:=e;simp[execOp,s,m,d,Result.andThen];exact k _ _ (i p (f p).1 (f p).2 w' b rfl hp I K J H E)
end
def ZE{bm:Nat}(h:w.ownsMap U 3 CM bm N D)(g:A3 D S (Em sz f))(hp:S p=true)(d:p<=9223372036854775807):
  (Instr.lookup 394 (.map (γ bm)) (.int β (p:Int)) false).run U w=.ok (α (γ ⟨(f p).1,0,ε⟩) sz (f p).2) w:=by
 obtain⟨v,ps,b,i⟩:=h.lookup IV underlying394 (OS w) (zd:=.held (α none 0 0)) (zp:=[]) rfl (K3 d);obtain⟨a,n,c,rfl,e⟩:=LW i;rw[g.2 p hp]at e;simp only[Prod.mk.injEq,DataW.held.injEq,Em,δ]at e;obtain⟨⟨rfl,rfl,rfl⟩,_⟩:=e;exact b
def jR{bm:Nat}(h:w.ownsMap U 3 CM bm N D)(g:A3 D S (Em sz f))(hp:S p=true)(d:p<=9223372036854775807):
  (Instr.lookup 394 (.map (γ bm)) (.int β (p:Int)) true).run U w=.ok (.tuple #[α (γ ⟨(f p).1,0,ε⟩) sz (f p).2,.bool true]) w:=by
 obtain⟨v,ps,b,i⟩:=h.look_ok IV underlying394 (OS w) (zd:=.held (α none 0 0)) (zp:=[]) rfl (K3 d);obtain⟨a,n,c,rfl,e⟩:=LW i;rw[g.2 p hp]at e;simp only[Prod.mk.injEq,DataW.held.injEq,Em,δ]at e;obtain⟨⟨rfl,rfl,rfl⟩,_⟩:=e;rw[g.has p,hp]at b;exact b
def jQ{bm:Nat}(h:w.ownsMap U 3 CM bm N D)(g:A3 D S (Em sz f))(hp:S p=false)(d:p<=9223372036854775807):
  ∃a n c,(Instr.lookup 394 (.map (γ bm)) (.int β (p:Int)) true).run U w=.ok (.tuple #[α a n c,.bool false]) w:=by
 obtain⟨v,ps,b,i⟩:=h.look_ok IV underlying394 (OS w) (zd:=.held (α none 0 0)) (zp:=[]) rfl (K3 d);obtain⟨a,n,c,rfl,e⟩:=LW i;rw[g.has p,hp]at b;exact⟨a,n,c,b⟩
structure Lf(w:ζ)(B sz:Nat)(S:Nat->Bool)(f:Nat->Nat×Nat)(cs:Nat->List Nat):Prop where
 own:∀p,S p=true->Own w B (α (γ ⟨(f p).1,0,ε⟩) sz (f p).2) (cs p)/\(cs p).length=sz
 two:∀p q,S p=true->S q=true->p≠q->(f p).1≠(f q).1
def Lf.below{cs:Nat->List Nat}(h:Lf w B sz S f cs)(a:Below w.heap.size w w'):Lf w' B sz S f cs:=⟨fun p hp=>⟨(h.own p hp).1.below a,(h.own p hp).2⟩,h.two⟩
def Lf.kept{cs:Nat->List Nat}{g:Nat}(h:Lf w B sz S f cs)(a:w.grownBy w' (γ g))(b:∀p,S p=true->(f p).1≠g):Lf w' B sz S f cs:=
 ⟨fun p hp=>⟨(h.own p hp).1.kept a (.inr fun e=>b p hp (by simpa [ξ]using e)),(h.own p hp).2⟩,h.two⟩
def KM{g n c bm:Nat}(h:Own w B (α (γ ⟨g,0,ε⟩) n c) xs)(l:w.ownsMap U 3 CM bm N D):g≠bm:=by
 rcases h.2.2 with⟨e,_⟩|⟨g',cap,i,e,_,k,_⟩
 ·cases e
 ·simp only[δ,η,Addr.mk.injEq,and_true]at e
  obtain⟨m,a,d,_⟩:=l;intro b;rw[<-b,e.1,k]at d;cases d
def Ox{g n c bm r cnt:Nat}{left:Lit->Bool}(h:Own w B (α (γ ⟨g,0,ε⟩) n c) xs)(m:w.ranges U 3 CM bm r N D left cnt):g≠r:=by
 rcases h.2.2 with⟨e,_⟩|⟨g',cap,k,e,_,l,_⟩
 ·cases e
 ·simp only[δ,η,Addr.mk.injEq,and_true]at e
  obtain⟨q,a,d,seen,c0,_,_,_,_,i,_⟩:=m;intro b;rw[<-b,e.1,l]at i;cases i
structure PV where
 g:Nat
 a:Option Addr
 n:Nat
 c:Nat
 kg:Nat
 kc:Nat
 bg:Nat
 bc:Nat
 bm:Nat
structure AZ(w:ζ)(B:Nat)(v:PV)(kn:List Nat)(bs:List ByteArray):Prop where
 box:w.heap[v.g]? =γ (.cells #[.slice v.a v.n v.c,α (γ ⟨v.kg,0,ε⟩) kn.length v.kc,α (γ ⟨v.bg,0,ε⟩) bs.length v.bc,.map (γ v.bm)] 396 (0,0))
 known:Own w B (α (γ ⟨v.kg,0,ε⟩) kn.length v.kc) kn
 blocks:Ar w B (α (γ ⟨v.bg,0,ε⟩) bs.length v.bc) bs
def AZ.cells{v:PV}(h:AZ w B v kn bs):
  w.cell? ⟨v.g,0,ε⟩=γ (.slice v.a v.n v.c)/\w.cell? ⟨v.g,1,ε⟩=γ (α (γ ⟨v.kg,0,ε⟩) kn.length v.kc)/\w.cell? ⟨v.g,2,ε⟩=γ (α (γ ⟨v.bg,0,ε⟩) bs.length v.bc)/\w.cell? ⟨v.g,3,ε⟩=γ (.map (γ v.bm)):=by
 have:=h.box;refine⟨?_,?_,?_,?_⟩<;>simp[World.cell?,this]
def AZ.lt{v:PV}(h:AZ w B v kn bs):v.g<w.heap.size:=(Array.getElem?_eq_some_iff.1 h.box).1
def AZ.below{v:PV}(h:AZ w B v kn bs)(a:Below w.heap.size w w'):AZ w' B v kn bs:=⟨(a.block v.g h.lt).trans h.box,h.known.below a,h.blocks.below a⟩
def Ar.blk{g n c:Nat}{ss:List ByteArray}(h:Ar w B (α (γ ⟨g,0,ε⟩) n c) ss):∃a,w.heap[g]? =γ (.cells a 9 (0,0)):=by
 rcases h.2 with⟨e,_⟩|⟨g',cap,a,e,_,b,_⟩
 ·cases e
 ·simp only[δ,η,Addr.mk.injEq,and_true]at e
  exact⟨a,by rw[e.1];exact b⟩
def Own.blk{g n c:Nat}(h:Own w B (α (γ ⟨g,0,ε⟩) n c) xs):∃a,w.heap[g]? =γ (.cells a 265 (0,0)):=by
 rcases h.2.2 with⟨e,_⟩|⟨g',cap,a,e,_,b,_⟩
 ·cases e
 ·simp only[δ,η,Addr.mk.injEq,and_true]at e
  exact⟨a,by rw[e.1];exact b⟩
def AZ.kept{v:PV}(h:AZ w B v kn bs)(a:w.grownBy w' (γ j))(b:v.g≠j)(c:v.kg≠j)(d:v.bg≠j):AZ w' B v kn bs:=
 ⟨(a.block v.g h.lt (by simpa using b)).trans h.box,h.known.kept a (.inr fun e=>c (by simpa [ξ]using e)),World.ownsRow.kept h.blocks a (.inr fun e=>d (by simpa [ξ]using e))⟩
def AZ.row{B' n c:Nat}{v:PV}(h:AZ w B v kn bs)(k:w.grownBy w' (γ j))(l:Own w B' (α (γ ⟨j,0,ε⟩) n c) xs)(i:v.kg≠j):AZ w' B v kn bs:=by
 obtain⟨g,d⟩:=l.blk;obtain⟨b,a⟩:=h.blocks.blk;refine h.kept k (fun e=>?_) i (fun e=>?_)
 ·have:=h.box
  rw[e,d]at this;simp only[η,Obj.cells.injEq]at this;exact absurd this.2.1 (by decide)
 ·rw[e,d]at a
  simp only[η,Obj.cells.injEq]at a;exact absurd a.2.1 (by decide)
def AZ.nocells{v:PV}(h:AZ w B v kn bs)(i:w.grownBy w' (γ j))(c:∀a t m,w.heap[j]? ≠γ (.cells a t m)):AZ w' B v kn bs:=by
 obtain⟨a,g⟩:=h.known.blk;obtain⟨d,b⟩:=h.blocks.blk;exact h.kept i (fun e=>c _ _ _ (by rw[<-e];exact h.box)) (fun e=>c _ _ _ (by rw[<-e];exact g)) (fun e=>c _ _ _ (by rw[<-e];exact b))
end Go.Proofs.YtfpmnekaockodaaGreatDoor
