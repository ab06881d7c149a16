/-
  Laws that the proof stands on.
-/
import Derived.Test.YtfpfcnfmigaphaaGreatDoorU1
import Derived.Laws.IdiomCopy
import Derived.Laws.NewBlocks
import Derived.Deep.RegionLaw
import Derived.Lib.SliceRun
namespace Go.Proofs.YtfpfcnfmigaphaaGreatDoor
open Go.RowKit Go.Sort
set_option linter.unusedVariables false
set_option linter.unusedSimpArgs false
set_option maxRecDepth 4000
set_option maxHeartbeats 8000000
variable {ss:List ByteArray}{B:Nat}{v:Value}{w:World}
def Aq(w:World)(a:Option Addr)(n:Nat)(ss:List ByteArray):Prop:=
 ss.length=n/\(n=0\/∃b off,a=some ⟨b,off,none⟩/\∀i,i<n->w.cell? ⟨b,off+i,none⟩=some (.string (ss.getD i ByteArray.empty)))
theorem Aq.at{a:Option Addr}{n:Nat}(h:Aq w a n ss){i:Nat}(d:i<n):
  ∃b off,a=some ⟨b,off,none⟩/\∀i,i<n->w.cell? ⟨b,off+i,none⟩=some (.string (ss.getD i ByteArray.empty)):=by
 rcases h.2 with c|c
 ·omega
 ·exact c
theorem Aq.below{w':World}{a:Option Addr}{n:Nat}(h:Aq w a n ss)(f:Below w.heap.size w w'):Aq w' a n ss:=by
 refine⟨h.1,?_⟩;rcases h.2 with e|⟨b,off,rfl,c⟩
 ·exact .inl e
 ·exact .inr ⟨b,off,rfl,fun i d=>(f.cell (World.block_lt_of_cell? w _ (c i d))).trans (c i d)⟩
def shorts(ss:List ByteArray):Prop:=∀s∈ss,s.size<=1048576
theorem shorts.get(h:shorts ss)(i:Nat):(ss.getD i ByteArray.empty).size<=1048576:=by
 rw[List.getD_eq_getElem?_getD];cases a:ss[i]? with
 |none=>simp
 |some x=>exact h x (List.mem_of_getElem? a)
theorem Aq.none(w:World):Aq w none 0 []:=⟨rfl,.inl rfl⟩
theorem LC:(Tryz.prog.info? 9).map (fun i=>(i.zero,i.size,i.bytes))=some (some (.string ByteArray.empty),1,16):=by kernel_rfl
def BD(ss:List ByteArray):List Value:=ss.map Value.string
theorem bC(ss:List ByteArray):(BD ss).length=ss.length:=by simp[BD]
theorem Rr(ss:List ByteArray)(i:Nat)(h:i<ss.length):(BD ss)[i]? =some (.string (ss.getD i ByteArray.empty)):=by
 simp[BD,List.getElem?_eq_getElem h,List.getD_eq_getElem?_getD]
def Ap(w:World)(B:Nat)(v:Value)(ss:List ByteArray):Prop:=w.ownsRow B 9 1 v ss.length (BD ss)
theorem Ap.nil(w:World)(B:Nat):Ap w B (.slice none 0 0) []:=World.ownsRow_nil _ _ _ _
theorem Ap.texts(h:Ap w B v ss):∃a c,v=.slice a ss.length c/\Aq w a ss.length ss:=by
 have e:w.ownsRow B 9 1 v ss.length (BD ss):=h;rcases h.2 with⟨rfl,b⟩|⟨g,cap,d,rfl,l,m,p,o,j,ht⟩
 ·exact⟨none,0,by rw[b],rfl,.inl b⟩
 ·refine⟨_,cap,rfl,rfl,.inr ⟨g,0,rfl,fun i f=>?_⟩⟩
  rw[Nat.zero_add,e.cellAt i (by omega),Rr ss i f]
theorem Ap.mono{B':Nat}(h:Ap w B v ss)(d:B'<=B):Ap w B' v ss:=by
 refine⟨h.1,?_⟩;rcases h.2 with b|⟨g,cap,a,c,e,r⟩
 ·exact .inl b
 ·exact .inr ⟨g,cap,a,c,Nat.le_trans d e,r⟩
theorem Ap.below{w':World}(h:Ap w B v ss)(e:Below w.heap.size w w'):Ap w' B v ss:=by
 refine⟨h.1,?_⟩;rcases h.2 with c|⟨g,cap,b,d,f,a,r⟩
 ·exact .inl c
 ·exact .inr ⟨g,cap,b,d,f,(e.block g (Array.getElem?_eq_some_iff.1 a).1).trans a,r⟩
theorem QI{ops:Array Oper}{rest:List Oper}{o:Oper}{act:Act}{Q:Exit->Act->World->Prop}(e:o.guard=none)(s x:Operand)
  (G:o.op=.call {callee:=.builtin .append,args:=#[s,x],argTypes:=#[50,50]}) (B:Nat) (v:Value) (ss:List ByteArray) (t:ByteArray)
  (H:act.eval s=v) (J:act.eval x=.slice (some ⟨w.heap.size,0,none⟩) 1 1) (h:Ap w B v ss) (d:B<=w.heap.size) (L:ss.length<=1048576)
  (A:∀z w',Ap w' B z (ss++[t])->Below B w w'->wpList Tryz.prog ops Q rest (act.put o.dst z) w'):wpList Tryz.prog ops Q (o::rest) act (w.alloc (.cells #[.string t] 9)):=by
 obtain⟨K,D,f,l,m⟩:=info_parts LC;have c:Below w.heap.size w (w.alloc (.cells #[.string t] 9)):=(Below.refl _ _).alloc (Nat.le_refl _) _;have p:(w.alloc (.cells #[.string t] 9)).ownsRow B 9 1 v ss.length (BD ss):=h.below c
 refine wpList_append_own _ e s x 50 G B 9 K (.string ByteArray.empty) 1 16 Tryz.underlying50 D f l m rfl (by decide) v ss.length (BD ss) H p ⟨w.heap.size,0,none⟩ 1 1 [.string t] J rfl (fun j u y=>?_)
  (fun u I=>by rw[List.mem_singleton.1 I];rfl) (by unfold maxLen;omega) (by omega) (Nat.le_trans d c.size) ?_
 ·match j with
  |0=>
   have C:(w.alloc (.cells #[.string t] 9)).cell? ⟨w.heap.size,0,none⟩=some (.string t):=by rw[World.cell?_alloc_at _ _ _ _ rfl];rfl
   simpa [Addr.add,C]using y
  |j+1=>simp at y
 ·intro v' w' a b _
  refine A v' w' ?_ ((c.mono d).grown b (Nat.le_trans d c.size) fun k E=>(p.lt k E).1);rw[show BD ss++[.string t]=BD (ss++[t]) by simp[BD]]at a;show w'.ownsRow B 9 1 v' (ss++[t]).length (BD (ss++[t]));rw[List.length_append];exact a
def CD(ss:List ByteArray):List Nat:=ss.foldl (fun a s=>xorL a (tx s)) []
theorem kT(ss:List ByteArray)(k:Nat)(h:k<ss.length):CD (ss.take (k+1))=xorL (CD (ss.take k)) (tx (ss.getD k ByteArray.empty)):=by
 unfold CD;rw[List.take_succ_eq_append_getElem h,List.foldl_append];simp[List.getD_eq_getElem?_getD,List.getElem?_eq_getElem h]
theorem dt(ss:List ByteArray):∀a,bytes a->bytes (ss.foldl (fun a s=>xorL a (tx s)) a):=by
 induction ss with
 |nil=>exact fun a h=>h
 |cons s ss b=>exact fun a h=>b _ (Ny h (Bk s))
theorem fW(ss:List ByteArray):bytes (CD ss):=dt ss [] Ja
theorem il(ss:List ByteArray)(c:shorts ss):∀a:List Nat,a.length<=1048576->(ss.foldl (fun a s=>xorL a (tx s)) a).length<=1048576:=by
 induction ss with
 |nil=>exact fun a h=>h
 |cons s ss d=>
  intro a h;refine d (fun s b=>c s (List.mem_cons_of_mem _ b)) _ ?_;rw[BV,AQ];have:=c s List.mem_cons_self;omega
theorem pn(ss:List ByteArray)(a:shorts ss)(k:Nat):(CD (ss.take k)).length<=1048576:=il _ (fun s h=>a s (List.mem_of_mem_take h)) [] (by simp)
theorem Wk{xs:List Nat}(h:bytes xs):(st xs).size=xs.length:=by rw[<-AQ,DD h]
theorem WA(a:Option Addr)(n c:Nat)(ss:List ByteArray)(w:World)(h:Aq w a n ss)(x:shorts ss)(E:n<=1048576):
  Calls Tryz.prog 289 #[.slice a n c] w fun e w'=>e=.returned (.string (st (CD ss)))/\Below w.heap.size w w':=by
 go_enter Tryz.func289,Tryz.ntmps289;go_wp2;go_loopw [3,8] (fun v i wr=> ∃k:Nat,k<=n/\i=.int .i64 k/\Hid (AC wr w.heap.size v (CD (ss.take k)))/\Hid (Below w.heap.size w wr)) (fun _ i _=>n-(intOf i).toNat)
 case atStart=>exact⟨0,Nat.zero_le _,rfl,Ab (AC.nil _ _),Ab (Below.refl _ _)⟩
 case round=>
  rename_i wr;obtain⟨k,D,rfl,p,l⟩:=hrel;by_cases f:k<n
  ·obtain⟨b,off,rfl,z⟩:=(h.below (Aa l)).at f
   have d:=z k f;have H:=Ab h;have y:=Ab x;have C:(k:Int)<(n:Int):=by omega
   clear z h x;go_wp2_with fail;refine(L7 _ _ _ w.heap.size _ (Aa p) (Aa l).size (pn ss (Aa y) k) ((Aa y).get k)).mono ?_;rintro e w1 ⟨G,rfl,j,m⟩;rw[<-kT ss k (by rw[(Aa H).1];exact f)]at j;have s:=Ab j;have o:=Ab ((Aa l).trans m);clear j m p l d;go_wp2;go_roundw
   case rel=>exact⟨k+1,by omega,by go_num,s,o⟩
   case measure=>simp[intOf];omega
  ·have u:=(Aa p).text
   have A:ss.take k=ss:=List.take_of_length_le (by rw[h.1];omega);rw[A]at u;clear h x A;go_wp2;go_ret;exact⟨rfl,Aa l⟩
def Bj(ss:List ByteArray)(vs:List Nat):Nat->List Nat
 |0=>[]
 |k+1=>if Ah vs k then xorL (Bj ss vs k) (tx (ss.getD k ByteArray.empty))else Bj ss vs k
theorem IB(ss:List ByteArray)(vs:List Nat):∀k,bytes (Bj ss vs k)
 |0=>Ja
 |k+1=>by
  unfold Bj;split
  ·exact Ny (IB ss vs k) (Bk _)
  ·exact IB ss vs k
theorem O9(ss:List ByteArray)(vs:List Nat)(a:shorts ss):∀k,(Bj ss vs k).length<=1048576
 |0=>by simp[Bj]
 |k+1=>by
  unfold Bj;have:=O9 ss vs a k;split
  ·rw[BV,AQ];have:=a.get k;omega
  ·exact this
theorem Wb{vs:List Nat}{k:Nat}(h:Ah vs k=true):Bj ss vs (k+1)=xorL (Bj ss vs k) (tx (ss.getD k ByteArray.empty)):=by simp[Bj,h]
theorem PO{vs:List Nat}{k:Nat}(h:Ah vs k=false):Bj ss vs (k+1)=Bj ss vs k:=by simp[Bj,h]
theorem PP(a:Option Addr)(n c:Nat)(ss:List ByteArray)(A:Option Addr)(m I:Nat)(vs:List Nat)(w:World)(h:Aq w a n ss)(E:shorts ss)(Q:n<=1048576)(C:RowAt w A m vs)(O:m<=1048576):
  Calls Tryz.prog 224 #[.slice a n c,.slice A m I] w fun e w'=>e=.returned (.string (st (Bj ss vs n)))/\Below w.heap.size w w':=by
 go_enter Tryz.func224,Tryz.ntmps224;go_wp2;go_loopw [5,10] (fun v i wr=> ∃k:Nat,k<=n/\i=.int .i64 k/\Hid (AC wr w.heap.size v (Bj ss vs k))/\Hid (Below w.heap.size w wr)) (fun _ i _=>n-(intOf i).toNat)
 case atStart=>exact⟨0,Nat.zero_le _,rfl,Ab (AC.nil _ _),Ab (Below.refl _ _)⟩
 case round=>
  rename_i wr;obtain⟨k,P,rfl,y,p⟩:=hrel;by_cases u:k<n
  ·obtain⟨b,off,rfl,J⟩:=(h.below (Aa p)).at u
   have l:=J k u;have H:=Ab E;have G:=Ab (C.below (Aa p));have L:(k:Int)<(n:Int):=by omega
   clear J h E C;go_wp2_with fail;refine(T9 A m I vs k _ (Aa G) O (by omega)).mono ?_;rintro e w1 ⟨rfl,j⟩;have f:=Ab ((Aa y).below j);have d:=Ab (Ad (Aa p) j);clear y p j G l;cases K:Ah vs k
   ·rw[<-PO (ss:=ss) K]at f
    go_wp2;go_roundw
    case rel=>exact⟨k+1,by omega,by go_num,f,d⟩
    case measure=>simp[intOf];omega
   ·go_wp2_with fail
    refine(L7 _ _ _ w.heap.size _ (Aa f) (Aa d).size (O9 ss vs (Aa H) k) ((Aa H).get k)).mono ?_;rintro e w2 ⟨R,rfl,o,s⟩;rw[<-Wb K]at o;have z:=Ab o;have x:=Ab ((Aa d).trans s);clear o s f d;go_wp2;go_roundw
    case rel=>exact⟨k+1,by omega,by go_num,z,x⟩
    case measure=>simp[intOf];omega
  ·have D:k=n:=by omega
   subst D;have N:=(Aa y).text;clear h E C;go_wp2;go_ret;exact⟨rfl,Aa p⟩
variable {w:World}
theorem Aq.alloc{a:Option Addr}{n:Nat}{ss:List ByteArray}(h:Aq w a n ss)(o:Obj):Aq (w.alloc o) a n ss:=h.below ((Below.refl _ _).alloc (Nat.le_refl _) _)
def DO(ss:List ByteArray)(vs:List Nat)(s:ByteArray):Bool:=MF (IW (st (Bj ss vs ss.length)) s)&&decide (BB vs ss.length=cnt vs)
theorem eG(ss:List ByteArray)(vs:List Nat)(s:ByteArray):DO ss vs s=true↔MF (IW (st (Bj ss vs ss.length)) s)=true/\∀i,ss.length<=i->Ah vs i=false:=by
 unfold DO;rw[Bool.and_eq_true,decide_eq_true_eq,OM]
structure RV where
 a:Option Addr
 n:Nat
 c:Nat
 xs:List Nat
 s:ByteArray
def RV.dflt:RV:=⟨none,0,0,[],⟨#[]⟩⟩
def Ak(w:World)(a:Option Addr)(n:Nat)(rs:List RV):Prop:=
 rs.length=n/\(∀i,i<n->RowAt w (rs.getD i .dflt).a (rs.getD i .dflt).n (rs.getD i .dflt).xs)/\(n=0\/∃b off,a=some ⟨b,off,none⟩/\
  ∀i,i<n->w.cell? ⟨b,off+i*2,none⟩=some (.slice (rs.getD i .dflt).a (rs.getD i .dflt).n (rs.getD i .dflt).c)/\w.cell? ⟨b,off+i*2+1,none⟩=some (.string (rs.getD i .dflt).s))
theorem Ak.at{a:Option Addr}{n:Nat}{rs:List RV}(h:Ak w a n rs){i:Nat}(e:i<n):
  ∃b off,a=some ⟨b,off,none⟩/\∀i,i<n->w.cell? ⟨b,off+i*2,none⟩=some (.slice (rs.getD i .dflt).a (rs.getD i .dflt).n (rs.getD i .dflt).c)/\w.cell? ⟨b,off+i*2+1,none⟩=some (.string (rs.getD i .dflt).s):=by
 rcases h.2.2 with d|d
 ·omega
 ·exact d
theorem Ak.below{w':World}{a:Option Addr}{n:Nat}{rs:List RV}(h:Ak w a n rs)(e:Below w.heap.size w w'):Ak w' a n rs:=by
 refine⟨h.1,fun i c=>(h.2.1 i c).below e,?_⟩;rcases h.2.2 with f|⟨b,off,rfl,d⟩
 ·exact .inl f
 ·exact .inr ⟨b,off,rfl,fun i c=>⟨(e.cell (World.block_lt_of_cell? w _ (d i c).1)).trans (d i c).1,(e.cell (World.block_lt_of_cell? w _ (d i c).2)).trans (d i c).2⟩⟩
def Af(rs:List RV):Prop:=∀i,(rs.getD i .dflt).n<=10/\(rs.getD i .dflt).s.size<=1000
def Ae(w:World)(rs:List RV):Prop:=∀r∈rs,RowAt w r.a r.n r.xs/\r.n<=r.c
theorem Ae.below{w':World}{rs:List RV}(h:Ae w rs)(b:Below w.heap.size w w'):Ae w' rs:=fun r a=>⟨(h r a).1.below b,(h r a).2⟩
theorem Ae.nil(w:World):Ae w []:=fun r a=>by cases a
theorem Ae.append{rs ss:List RV}(h:Ae w rs)(k:Ae w ss):Ae w (rs++ss):=fun r a=>(List.mem_append.1 a).elim (h r) (k r)
theorem Ae.one{r:RV}(h:RowAt w r.a r.n r.xs)(b:r.n<=r.c):Ae w [r]:=fun x d=>by rw[List.mem_singleton.1 d];exact⟨h,b⟩
theorem Ae.get{rs:List RV}(h:Ae w rs){i:Nat}(b:i<rs.length):RowAt w (rs.getD i .dflt).a (rs.getD i .dflt).n (rs.getD i .dflt).xs/\(rs.getD i .dflt).n<=(rs.getD i .dflt).c:=by
 have:=h rs[i] (List.getElem_mem b);rwa[List.getD_eq_getElem?_getD,List.getElem?_eq_getElem b]
variable {on:Bool}{i k:Int}{xs:List Nat}{B n g cap q:Nat}{r:Option Nat}{v:Value}{w w':World}
theorem Hx(w:World)(r:Option Nat):w.grownBy w r:=⟨rfl,rfl,rfl,Nat.le_refl _,fun _ _ _=>rfl⟩
theorem CR(h:Below w.heap.size w w')(r:Option Nat):w.grownBy w' r:=⟨h.os,h.tape,h.output,h.size,fun k a _=>h.block k a⟩
theorem BI{w1 w2:World}{c:Option Nat}(h:w.grownBy w1 r)(k:w1.grownBy w2 c)(b:c=r\/∀j,c=some j->w.heap.size<=j):w.grownBy w2 r:=by
 refine⟨k.os.trans h.os,k.tape.trans h.tape,k.output.trans h.output,Nat.le_trans h.size k.size,fun j d a=>?_⟩;refine(k.block j (Nat.lt_of_lt_of_le d h.size) fun e=>?_).trans (h.block j d a);rcases b with b|b
 ·exact a (e.trans b)
 ·have:=b j e.symm;omega
theorem CP(h:w.grownBy w' r){B:Nat}(a:B<=w.heap.size)(b:∀k,r=some k->B<=k):Below B w w':=(Below.refl B w).grown h a b
theorem Bx(w:World)(g i:Nat)(u:Value):w.grownBy (w.setCell ⟨g,i,none⟩ u) (some g):=
 ⟨rfl,rfl,rfl,by simp[World.setCell],fun k _ a=>Below.heap_setCell _ _ _ _ (fun e=>a (by rw[e]))⟩
theorem Mg(h:w.grownBy w' r):w.grownBy w'.drew r:=⟨h.os,h.tape,h.output,h.size,h.block⟩
theorem Own.kept{row:Option Nat}(h:Own w B v xs)(b:w.grownBy w' row)(a:v.ownBlock=none\/v.ownBlock≠row):Own w' B v xs:=⟨h.1,h.2.kept b a⟩
theorem Own.lt(h:Own w B v xs){k:Nat}(a:v.ownBlock=some k):B<=k/\k<w.heap.size:=h.2.lt k a
theorem RowAt.kept{a:Option Addr}{row:Option Nat}(h:RowAt w a n xs)(j:w.grownBy w' row)(d:n=0\/∀e,a=some e->some e.block≠row):RowAt w' a n xs:=by
 refine⟨h.1,h.2.1,?_⟩;rcases h.2.2 with c|⟨b,off,rfl,f⟩
 ·exact .inl c
 ·rcases d with c|d
  ·exact .inl c
  ·exact .inr ⟨b,off,rfl,fun i l=>j.cell (f i l) (d ⟨b,off,none⟩ rfl)⟩
theorem RowAt.lt{a:Option Addr}(h:RowAt w a n xs):n=0\/∀c,a=some c->c.block<w.heap.size:=by
 rcases h.2.2 with d|⟨b,off,rfl,f⟩
 ·exact .inl d
 ·by_cases d:n=0
  ·exact .inl d
  ·right
   intro c e;simp only[Option.some.injEq]at e;subst e;exact World.block_lt_of_cell? w _ (f 0 (by omega))
theorem Iq(g:Nat)(e:TypeId):∀(vs:List Value) (o:Nat) (w:World) (a:Array Value),w.heap[g]? =some (.cells a e (0,0))->
  ∃b,(w.setCells g o vs).heap[g]? =some (.cells b e (0,0))/\b.size=a.size/\∀j,j<a.size->b[j]? =if o<=j/\j<o+vs.length then vs[j-o]? else a[j]?
 |[],o,w,a,h=>⟨a,h,rfl,fun j d=>by rw[if_neg (by simp only[List.length_nil];omega)]⟩
 |v::r,o,w,a,h=>by
  obtain⟨b,l,m,p⟩:=Iq g e r (o+1) (w.setCell ⟨g,o,none⟩ v) (a.setIfInBounds o v) (heap_setCell_same w g o a e v h);refine⟨b,l,by simpa using m,fun j d=>?_⟩;rw[p j (by simpa using d)];by_cases f:j=o
  ·subst f
   rw[if_neg (by omega),if_pos (by simp)];simp[d]
  ·by_cases c:o+1<=j/\j<o+1+r.length
   ·rw[if_pos c,if_pos (by simp;omega)]
    rw[show j-o=(j-(o+1))+1 by omega,List.getElem?_cons_succ]
   ·rw[if_neg c,if_neg (by simp;omega)]
    rw[Array.getElem?_setIfInBounds_ne (by omega)]
theorem Hm(g:Nat):∀(vs:List Value) (o:Nat) (w:World),w.grownBy (w.setCells g o vs) (some g)
 |[],o,w=>Hx _ _
 |v::r,o,w=>BI (Bx w g o v) (Hm g r (o+1) _) (.inl rfl)
def E4(xs:List Nat)(i:Int)(on:Bool):List Nat:=if i<0 then xs else Bw xs i.toNat on
theorem PT(x:Nat)(i:Int)(a:x<18446744073709551616):bits .or .u64 (x:Int) ((2^(i%64).toNat:Nat):Int)=((setW x (i%64).toNat true:Nat):Int):=by
 have h:(i%64).toNat<64:=by omega
 have b:2^(i%64).toNat<2^64:=Nat.pow_lt_pow_right (by decide) h;rw[u64_or_nat x _ a (by omega),V5]
theorem et(x:Nat)(i:Int)(a:x<18446744073709551616):bits .andNot .u64 (x:Int) ((2^(i%64).toNat:Nat):Int)=((setW x (i%64).toNat false:Nat):Int):=by
 have h:(i%64).toNat<64:=by omega
 have b:2^(i%64).toNat<2^64:=Nat.pow_lt_pow_right (by decide) h;rw[u64_andNot_nat x _ a (by omega),cN x _ a h]
theorem LS(i:Int)(q:Nat)(a:0<=i)(c:i<=9223372036854775807)(b:i/64=(q:Int)):IntKind.i64.wrap (i.tdiv 64)=(q:Int):=by
 rw[Int.tdiv_eq_ediv_of_nonneg a,b];simp[IntKind.wrap,IntKind.bits,IntKind.signed];omega
theorem TG{wr:World}(f:0<=i)(h:i/64=(q:Int))(e:Ac xs)(b:B<=g)(d:Own wr B (.slice (some ⟨g,0,none⟩) xs.length cap) xs)(c:Below B w wr):
  Own (wr.setCell ⟨g,q,none⟩ (.int .u64 ((setW (xs.getD q 0) (i%64).toNat on:Nat):Int))) B (.slice (some ⟨g,0,none⟩) xs.length cap) (E4 xs i on)/\
  Below B w (wr.setCell ⟨g,q,none⟩ (.int .u64 ((setW (xs.getD q 0) (i%64).toNat on:Nat):Int))):=by
 have a:=d.stored q (setW (xs.getD q 0) (i%64).toNat on) (Ma _ _ _ (e.get _) (by omega));refine⟨?_,c.setCell (by exact b) _⟩;unfold E4 Bw;rw[if_neg (by omega),show i.toNat/64=q by omega,show i.toNat%64=(i%64).toNat by omega];exact a
theorem Own.drew(h:Own w B v xs):Own w.drew B v xs:=⟨h.1,h.2.drew⟩
theorem RC{wr:World}(a:0<=i)(h:i/64=(q:Int))(j:Ac xs)(d:B<=g)(f:Own wr B (.slice (some ⟨g,0,none⟩) xs.length cap) xs)(e:Below B w wr):
  Own (wr.setCell ⟨g,q,none⟩ (.int .u64 ((setW (xs.getD q 0) (i%64).toNat on:Nat):Int))).drew B (.slice (some ⟨g,0,none⟩) xs.length cap) (E4 xs i on)/\
  Below B w (wr.setCell ⟨g,q,none⟩ (.int .u64 ((setW (xs.getD q 0) (i%64).toNat on:Nat):Int))).drew:=by
 obtain⟨b,c⟩:=TG (on:=on) a h j d f e;exact⟨b.drew,c.drew⟩
theorem pe(h:¬(0<=i/\i/64<(xs.length:Int))):E4 xs i on=xs:=by
 unfold E4;split
 ·rfl
 ·exact pb xs _ on (by omega)
theorem Wo(a:Option Addr)(n c:Nat)(xs:List Nat)(i:Int)(on:Bool)(w:World)(h:RowAt w a n xs)(W:n<=1048576)(C:i<=9223372036854775807):
  Calls Tryz.prog 249 #[.slice a n c,.int .i64 i,.bool on] w fun e w'=> ∃v,e=.returned v/\Own w' w.heap.size v (E4 xs i on)/\Below w.heap.size w w':=by
 obtain rfl:n=xs.length:=h.1.symm;by_cases d:0<=i/\i/64<(xs.length:Int)
 ·obtain⟨b,E⟩:=d
  obtain⟨q,G⟩:=Int.eq_ofNat_of_zero_le (show 0<=i/64 by omega);have T:=LS i q b C G;have S:q<xs.length:=by omega
  have K:(q:Int)<(xs.length:Int):=by omega
  have H:=Ab (fun wx=>Ve i b C wx);go_enter Tryz.func249,Tryz.ntmps249;go_wp2_with fail;refine(GF a xs.length c xs _ h (by omega)).mono ?_;rintro e w1 ⟨v,rfl,f,p⟩;have m:=Ab f;obtain⟨g,cap,rfl,o,Q,s,u⟩:=f.at (by omega);have D:=s q (by omega);have P:=u q;have L:=h.2.1.get q;have l:=Lq (some ⟨g,0,none⟩) xs.length cap i b C w1;rw[show decide (i/64<(xs.length:Int))=true by simp;omega]at l;have A:=Ab l;clear l s u f E;have I:=Ab (RC (on:=true) b G h.2.1 o (Aa m) p);have J:=Ab (RC (on:=false) b G h.2.1 o (Aa m) p);have R:=PT (xs.getD q 0) i L;have O:=et (xs.getD q 0) i L;generalize (2^(i%64).toNat:Nat)=mk at*;generalize xs.getD q 0=x at*;generalize setW x (i%64).toNat true=y at*;generalize setW x (i%64).toNat false=z at*;clear m h p;cases on with
  |true=>
   go_wp2_with (go_at_call 293;refine(Aa A).mono ?_;rintro e w' ⟨rfl,rfl⟩);go_region_with (go_at_call 294;refine(Aa H _).mono ?_;rintro e w' ⟨rfl,rfl⟩)
   all_goals go_wp2
   all_goals go_ret
   all_goals exact⟨_,rfl,(Aa I).1,(Aa I).2⟩
  |false=>
   go_wp2_with (go_at_call 293;refine(Aa A).mono ?_;rintro e w' ⟨rfl,rfl⟩);go_region_with (go_at_call 294;refine(Aa H _).mono ?_;rintro e w' ⟨rfl,rfl⟩)
   all_goals go_wp2
   all_goals go_ret
   all_goals exact⟨_,rfl,(Aa J).1,(Aa J).2⟩
 ·have l:∀(j:Option Addr) (c1:Nat) (wx:World),Calls Tryz.prog 293 #[.slice j xs.length c1,.int .i64 i] wx fun e w'=>e=.returned (.bool false)/\w'=wx:=by
   intro j c1 wx;by_cases b:0<=i
   ·have:=Lq j xs.length c1 i b C wx
    rwa[show decide (i/64<(xs.length:Int))=false by simp;omega]at this
   ·exact RQ j xs.length c1 i (by omega) wx
  have A:=Ab l;have N:=Ab (pe (on:=on) d);clear l d;go_enter Tryz.func249,Tryz.ntmps249;go_wp2_with fail;refine(GF a xs.length c xs _ h (by omega)).mono ?_;rintro e w1 ⟨v,rfl,f,p⟩;have m:=Ab f;obtain⟨j,c1,rfl,V⟩:=f.row;clear f V;go_wp2_with (go_at_call 293;refine(Aa A j c1 _).mono ?_;rintro e w' ⟨rfl,rfl⟩);go_ret;exact⟨_,rfl,by rw[Aa N];exact Aa m,p⟩
def De(xs:List Nat):Nat->Nat->List Nat
 |_,0=>xs
 |o,m+1=>De (xs.set o 0) (o+1) m
theorem Hi:∀(m o:Nat) (xs:List Nat),(De xs o m).length=xs.length
 |0,_,_=>rfl
 |m+1,o,xs=>by rw[De,Hi m];simp
theorem Kv:∀(m o:Nat) (xs:List Nat) (j:Nat),(De xs o m).getD j 0=if o<=j/\j<o+m then 0 else xs.getD j 0
 |0,o,xs,j=>by simp[De];omega
 |m+1,o,xs,j=>by
  rw[De,Kv m (o+1),D7];by_cases a:o+1<=j/\j<o+1+m
  ·rw[if_pos a,if_pos (by omega)]
  ·rw[if_neg a]
   by_cases b:j=o
   ·subst b
    rw[if_pos (c:=j<=j/\j<j+(m+1)) (by omega)];split
    ·rfl
    ·exact FL (by omega)
   ·rw[if_neg (by omega),if_neg (by omega)]
theorem Own.cleared{B g cap:Nat}:∀(m o:Nat) (xs:List Nat) (w:World),Own w B (.slice (some ⟨g,0,none⟩) xs.length cap) xs->
  Own (w.setCells g o (List.replicate m (.int .u64 0))) B (.slice (some ⟨g,0,none⟩) xs.length cap) (De xs o m)
 |0,_,_,_,h=>h
 |m+1,o,xs,w,h=>by
  have b:=h.stored o 0 (by decide);have a:=Own.cleared m (o+1) (xs.set o 0) (w.setCell ⟨g,o,none⟩ (.int .u64 0)) (by simpa using b);rw[List.replicate_succ];have c:(xs.set o 0).length=xs.length:=by simp
  rw[c]at a;exact a
theorem Below.cells{B g:Nat}{w0:World}(a:B<=g):∀(vs:List Value) (o:Nat) (w:World),Below B w0 w->Below B w0 (w.setCells g o vs)
 |[],_,_,h=>h
 |v::r,o,w,h=>Below.cells a r (o+1) (w.setCell ⟨g,o,none⟩ v) (h.setCell (by exact a) v)
def fmask(r:Nat):Nat:=18446744073709551615*2^r%18446744073709551616
theorem mx(r:Nat):fmask r<18446744073709551616:=Nat.mod_lt _ (by decide)
theorem pW(w:World):(zeroValue 69).run Tryz.prog w=.ok (.int .u64 0) w:=by kernel_rfl
theorem SY{w1:World}(l:Own w1 B (.slice (some ⟨g,0,none⟩) xs.length cap) xs)(m:q<=xs.length):
  ∀c,(Builtin.clear_ #[32] c #[.slice (some ⟨g,0,none⟩) q cap]).run Tryz.prog w1=.ok (.tuple #[]) (w1.setCells g 0 (List.replicate q (.int .u64 0))):=by
 intro c;by_cases e:q=0
 ·subst e
  simp[Builtin.clear_,run_underlying Tryz.underlying32,World.setCells]
 ·obtain⟨g',d,f,_,_,a,b⟩:=l.at (by omega)
  simp only[Value.slice.injEq,Option.some.injEq,Addr.mk.injEq,and_true,true_and]at f;obtain⟨rfl,rfl⟩:=f;exact Lib.run_clear_slice w1 32 69 c (.int .u64 0) Tryz.underlying32 pW rfl rfl g 0 q cap (by omega) (fun j h=>by rw[Nat.zero_add,a j (by omega)];rfl) (fun j h=>by rw[Nat.zero_add];exact b j)
theorem nE(x r:Nat)(a:x<18446744073709551616):bits .and .u64 (x:Int) (IntKind.u64.wrap (18446744073709551615*2^r))=((x&&&fmask r:Nat):Int):=by
 have e:IntKind.u64.wrap (18446744073709551615*2^r)=((fmask r:Nat):Int):=by
  rw[IntKind.wrap_u64];unfold fmask;simp
 rw[e,u64_and_nat x _ a (mx r)]
theorem Yk(a:Option Addr)(n c:Nat)(xs:List Nat)(k:Int)(q:Nat)(w:World)(h:RowAt w a n xs)(hn:n<=1048576)(R:0<=k)(W:k<=9223372036854775807)(X:k/64=(q:Int))(Y:q<n):
  Calls Tryz.prog 204 #[.slice a n c,.int .i64 k] w fun e w'=> ∃v,e=.returned v/\Own w' w.heap.size v ((De xs 0 q).set q (xs.getD q 0&&&fmask (k%64).toNat))/\Below w.heap.size w w':=by
 obtain rfl:n=xs.length:=h.1.symm;have Z:=LS k q R W X;have O:(q:Int)<(xs.length:Int):=by omega
 go_enter Tryz.func204,Tryz.ntmps204;go_wp2_with fail;refine(GF a xs.length c xs _ h (by omega)).mono ?_;rintro e w1 ⟨v,rfl,C,K⟩;obtain⟨g,cap,rfl,z,V,G,H⟩:=C.at (by omega);have L:=C.cap;have S:=SY C (by omega:q<=xs.length);have d:=Own.cleared q 0 xs w1 C;have A:=Below.cells (w0:=w) z (List.replicate q (.int .u64 0)) 0 w1 K;generalize w1.setCells g 0 (List.replicate q (.int .u64 0))=w2 at*;have u:=Hi q 0 xs;rw[<-u]at d;obtain⟨g',J,P,_,N,j,l⟩:=d.at (by omega);simp only[Value.slice.injEq,Option.some.injEq,Addr.mk.injEq,and_true,true_and]at P;obtain⟨rfl,rfl⟩:=P;have b:=j q (by omega);have T:=l q;rw[Kv,if_neg (by omega)]at b;have o:=nE (xs.getD q 0) (k%64).toNat (h.2.1.get q);have m:xs.getD q 0&&&fmask (k%64).toNat<18446744073709551616:=Nat.lt_of_le_of_lt Nat.and_le_left (h.2.1.get q);have f:=d.stored q (xs.getD q 0&&&fmask (k%64).toNat) m;have s:=A.setCell (p:=⟨g,q,none⟩) (by exact z) (.int .u64 ((xs.getD q 0&&&fmask (k%64).toNat:Nat):Int));rw[u]at f;obtain⟨y,I⟩:∃y,y=xs.getD q 0&&&fmask (k%64).toNat:=⟨_,rfl⟩;rw[<-I]at o f s;have E:=Ab f;have D:=Ab s;have Q:=Ab I;clear G H j l C d K A h u f s m I;generalize xs.getD q 0=x at o b;go_wp2;go_ret;exact⟨_,rfl,by rw[<-Aa Q];exact Aa E,Aa D⟩
theorem nD(a:Option Addr)(n c:Nat)(xs:List Nat)(k:Int)(w:World)(h:RowAt w a n xs)(G:n<=1048576)(C:0<n)(x:0<=k)(A:k<=9223372036854775807)(D:k/64=(n:Int)):
  Calls Tryz.prog 204 #[.slice a n c,.int .i64 k] w fun e w'=> ∃v,e=.returned v/\Own w' w.heap.size v (De xs 0 n)/\Below w.heap.size w w':=by
 obtain rfl:n=xs.length:=h.1.symm;have E:=LS k xs.length x A D;go_enter Tryz.func204,Tryz.ntmps204;go_wp2_with fail;refine(GF a xs.length c xs _ h (by omega)).mono ?_;rintro e w1 ⟨v,rfl,d,s⟩;obtain⟨g,cap,rfl,m,z,o,p⟩:=d.at (by omega);have u:=d.cap;have y:=SY d (Nat.le_refl _);have f:=Own.cleared xs.length 0 xs w1 d;have b:=Below.cells (w0:=w) m (List.replicate xs.length (.int .u64 0)) 0 w1 s;generalize w1.setCells g 0 (List.replicate xs.length (.int .u64 0))=w2 at*;have l:=Ab f;have j:=Ab b;clear o p d f s b h;go_wp2;go_ret;exact⟨_,rfl,Aa l,Aa j⟩
def BU(k:Int)(xs:List Nat):Prop:=0<xs.length/\xs.length=sizeOfK k/\∀i,k.toNat<=i->Ah xs i=false
theorem Ld(h:0<sizeOfK k):1<=k/\k<=128/\sizeOfK k=((k+63)/64).toNat:=by
 unfold sizeOfK at*;split at h
 ·omega
 ·rename_i a
  rw[if_neg a];omega
theorem SE(r t:Nat)(ht:t<64):(fmask r).testBit t=decide (r<=t):=by
 unfold fmask;rw[show(18446744073709551616:Nat)=2^64 from rfl,Nat.testBit_mod_two_pow,Nat.testBit_mul_two_pow,show(18446744073709551615:Nat)=2^64-1 from rfl,Nat.testBit_two_pow_sub_one];simp[ht];omega
theorem iA(x r:Nat)(c:x<18446744073709551616):(x&&&fmask r=0)↔∀t,t<64->r<=t->x.testBit t=false:=by
 constructor
 ·intro h t ht a
  have b:(x&&&fmask r).testBit t=false:=by rw[h];simp
  rw[Nat.testBit_and,SE r t ht]at b;simpa [a]using b
 ·intro h
  apply Nat.eq_of_testBit_eq;intro t;rw[Nat.testBit_and,Nat.zero_testBit];by_cases ht:t<64
  ·rw[SE r t ht]
   by_cases a:r<=t
   ·simp[h t ht a]
   ·simp[a]
  ·have:x.testBit t=false:=Nat.testBit_lt_two_pow (Nat.lt_of_lt_of_le (show x<2^64 by omega) (Nat.pow_le_pow_right (by decide) (by omega)))
   simp[this]
theorem mN(b:0<xs.length)(c:xs.length=sizeOfK k)(d:k/64=(xs.length:Int)):cnt (De xs 0 xs.length)=0/\BU k xs:=by
 constructor
 ·apply M4
  intro i a;rw[Hi]at a;rw[Kv,if_pos (by omega)]
 ·exact⟨b,c,fun i a=>EC xs i (by omega)⟩
theorem pP(f:Ac xs)(m:0<xs.length)(u:xs.length=sizeOfK k)(y:0<=k)(A:k/64=(q:Int))(e:q<xs.length):
  cnt ((De xs 0 q).set q (xs.getD q 0&&&fmask (k%64).toNat))=0↔BU k xs:=by
 have hp:=Ld (k:=k) (by omega);have s:q+1=xs.length:=by omega
 have x:Ac ((De xs 0 q).set q (xs.getD q 0&&&fmask (k%64).toNat)):=by
  have j:Ac (De xs 0 q):=by
   intro z j;obtain⟨i,b,rfl⟩:=List.getElem_of_mem j;have a:=Kv q 0 xs i;have o:(De xs 0 q).getD i 0=(De xs 0 q)[i]:=by simp[List.getD_eq_getElem?_getD,List.getElem?_eq_getElem b]
   have p:=f.get i;rw[o]at a;show(De xs 0 q)[i]<18446744073709551616;rw[a];split
   ·decide
   ·exact p
  exact j.set _ _ (Nat.lt_of_le_of_lt Nat.and_le_left (f.get q))
 have l:cnt ((De xs 0 q).set q (xs.getD q 0&&&fmask (k%64).toNat))=0↔xs.getD q 0&&&fmask (k%64).toNat=0:=by
  constructor
  ·intro h
   have a:=(JU _).1 (Ri _ x h) q;rw[D7,if_pos ⟨rfl,by rw[Hi];exact e⟩]at a;exact a
  ·intro h
   apply M4;intro i b;rw[List.length_set,Hi]at b;rw[D7];split
   ·exact h
   ·rw[Kv,if_pos]
    rename_i d;rw[Hi]at d;omega
 rw[l,iA _ _ (f.get q)];constructor
 ·intro h
  refine⟨m,u,fun i b=>?_⟩;by_cases c:64*xs.length<=i
  ·exact EC xs i c
  ·unfold Ah
   rw[show i/64=q by omega];exact h (i%64) (by omega) (by omega)
 ·intro h t ht C
  have:=h.2.2 (64*q+t) (by omega);rwa[Mh xs q t ht]at this
def Ch(e:Ending)(P:Prop):Prop:=∃b,e=.returned (.bool b)/\(b=true↔P)
theorem Ch.no{P:Prop}(h:¬P):Ch (.returned (.bool false)) P:=⟨false,rfl,by simp[h]⟩
theorem Ch.yes{P:Prop}(h:P):Ch (.returned (.bool true)) P:=⟨true,rfl,by simp[h]⟩
theorem LM(a:Option Addr)(n c:Nat)(xs:List Nat)(k:Int)(w:World)(h:RowAt w a n xs):
  Calls Tryz.prog 180 #[.int .i64 k,.slice a n c] w fun e w'=>Ch e (BU k xs)/\Below w.heap.size w w':=by
 obtain rfl:n=xs.length:=h.1.symm;have y:=Ab (GL k);by_cases A:xs.length=0
 ·have D:((xs.length:Int)==0)=true:=by rw[A];rfl
  have f:=Ab (show¬BU k xs from fun G=>by have:=G.1;omega);clear h A;go_enter Tryz.func180,Tryz.ntmps180;go_wp2;go_ret;exact⟨Ch.no (Aa f),Below.refl _ _⟩
 ·have D:((xs.length:Int)==0)=false:=by simp only[beq_eq_false_iff_ne,ne_eq];omega
  by_cases m:xs.length=sizeOfK k
  ·have hp:=Ld (k:=k) (by omega)
   have E:((xs.length:Int) !=((sizeOfK k:Nat):Int))=false:=by rw[m];simp
   have o:xs.length<=1048576:=by omega
   obtain⟨q,u⟩:=Int.eq_ofNat_of_zero_le (show 0<=k/64 by omega)
   have I:∀q:Nat,((q:Int)==0)=true↔q=0:=fun q=>by
    by_cases e:q=0
    ·subst e;simp
    ·simp[e]
   have H:=Ab I;clear I;by_cases b:q<xs.length
   ·have s:=Ab (pP h.2.1 (by omega) m (by omega) u b)
    have f:=Ab (fun wx (l:RowAt wx a xs.length xs)=>Yk a xs.length c xs k q wx l o (by omega) (by omega) u b);have d:((De xs 0 q).set q (xs.getD q 0&&&fmask (k%64).toNat)).length=xs.length:=by rw[List.length_set,Hi]
    have x:=Ab d;generalize (De xs 0 q).set q (xs.getD q 0&&&fmask (k%64).toNat)=res at*;clear u b m d;go_enter Tryz.func180,Tryz.ntmps180;go_wp2_with (go_at_call 177;refine(Aa y _).mono ?_;rintro e w' ⟨rfl,rfl⟩);refine(Aa f _ h).mono ?_;rintro e w1 ⟨v,rfl,p,C⟩;obtain⟨z,c1,rfl,l⟩:=p.row;go_wp2_with fail;refine(Gh z _ c1 _ _ l (by rw[Aa x];omega)).mono ?_;rintro e w2 ⟨rfl,rfl⟩;clear p;go_wp2;go_ret;exact⟨⟨_,rfl,(Aa H _).trans (Aa s)⟩,C⟩
   ·have j:k/64=(xs.length:Int):=by omega
    have s:=Ab (mN (by omega) m j);have f:=Ab (fun wx (l:RowAt wx a xs.length xs)=>nD a xs.length c xs k wx l o (by omega) (by omega) (by omega) j);have x:=Ab (Hi xs.length 0 xs);generalize De xs 0 xs.length=res at*;clear u b j m;go_enter Tryz.func180,Tryz.ntmps180;go_wp2_with (go_at_call 177;refine(Aa y _).mono ?_;rintro e w' ⟨rfl,rfl⟩);refine(Aa f _ h).mono ?_;rintro e w1 ⟨v,rfl,p,C⟩;obtain⟨z,c1,rfl,l⟩:=p.row;go_wp2_with fail;refine(Gh z _ c1 _ _ l (by rw[Aa x];omega)).mono ?_;rintro e w2 ⟨rfl,rfl⟩;clear p;go_wp2;go_ret;exact⟨⟨_,rfl,(Aa H _).trans ⟨fun _=>(Aa s).2,fun _=>(Aa s).1⟩⟩,C⟩
  ·have E:((xs.length:Int) !=((sizeOfK k:Nat):Int))=true:=by rw[bne_iff_ne];omega
   have f:=Ab (show¬BU k xs from fun G=>m G.2.1);clear h A m;go_enter Tryz.func180,Tryz.ntmps180;go_wp2_with (go_at_call 177;refine(Aa y _).mono ?_;rintro e w' ⟨rfl,rfl⟩);go_ret;exact⟨Ch.no (Aa f),Below.refl _ _⟩
theorem Rz(a:Option Addr)(n c:Nat)(xs:List Nat)(k:Int)(w:World)(h:RowAt w a n xs):
  Calls Tryz.prog 169 #[.int .i64 k,.slice a n c] w fun e w'=>Ch e (BU k xs)/\w'=w:=by
 obtain rfl:n=xs.length:=h.1.symm;have y:=Ab (Ol k);by_cases s:sizeOfK k=0
 ·have z:(((sizeOfK k:Nat):Int)==0)=true:=by rw[s];rfl
  have b:=Ab (show¬BU k xs from fun l=>by have:=l.1;have:=l.2.1;omega);clear h s;go_enter Tryz.func169,Tryz.ntmps169;go_wp2_with (go_at_call 100;refine(Aa y _).mono ?_;rintro e w' ⟨rfl,rfl⟩);go_ret;exact⟨Ch.no (Aa b),rfl⟩
 ·have z:(((sizeOfK k:Nat):Int)==0)=false:=by simp only[beq_eq_false_iff_ne,ne_eq];omega
  by_cases p:xs.length=sizeOfK k
  ·have hp:=Ld (k:=k) (by omega)
   have A:((xs.length:Int) !=((sizeOfK k:Nat):Int))=false:=by rw[p];simp
   have Q:xs.length<=1048576:=by omega
   have G:=Ab p;have D:0<xs.length:=by omega
   obtain⟨R,S,o⟩:=hp;have J:=Ab o;clear p s o;go_enter Tryz.func169,Tryz.ntmps169;go_wp2_with (go_at_call 100;refine(Aa y _).mono ?_;rintro e w' ⟨rfl,rfl⟩);go_loop [5] (fun t=> ∃i:Nat,k.toNat<=i/\i<=64*xs.length/\t=.int .i64 (i:Int)/\Hid (∀j,k.toNat<=j->j<i->Ah xs j=false)) (fun t=>64*xs.length-(intOf t).toNat)
   case atStart=>exact⟨k.toNat,Nat.le_refl _,by have:=Aa G;have:=Aa J;omega,by rw[show((k.toNat:Nat):Int)=k by omega],Ab (fun j H K=>by omega)⟩
   case round=>
    obtain⟨i,C,N,rfl,E⟩:=hrel;by_cases P:i<64*xs.length
    ·have I:(i:Int)<64*(xs.length:Int):=by omega
     have d:=XL a xs.length c xs (i:Int) _ h (by omega) (by omega) (by omega) (by omega);rw[Int.toNat_natCast]at d;by_cases m:Ah xs i=true
     ·rw[m]at d
      have u:=Ab d;have b:=Ab (show¬BU k xs from fun l=>by have:=l.2.2 i C;rw[m]at this;cases this);clear d h m;go_wp2_with (go_at_call 157;refine(Aa u).mono ?_;rintro e w' ⟨rfl,rfl⟩);go_ret;exact⟨Ch.no (Aa b),rfl⟩
     ·have f:Ah xs i=false:=by simpa using m
      rw[f]at d;have u:=Ab d
      have x:=Ab (show∀j,k.toNat<=j->j<i+1->Ah xs j=false from fun j H K=>by
       by_cases e:j=i
       ·rw[e];exact f
       ·exact Aa E j H (by omega))
      clear d h m f;go_wp2_with (go_at_call 157;refine(Aa u).mono ?_;rintro e w' ⟨rfl,rfl⟩);go_round
      case rel=>exact⟨i+1,by omega,by omega,by go_num,x⟩
      case measure=>simp[intOf];omega
    ·have L:¬((i:Int)<64*(xs.length:Int)):=by omega
     have b:=Ab (show BU k xs from⟨D,Aa G,fun j O=>by
      by_cases e:j<i
      ·exact Aa E j O e
      ·exact EC xs j (by omega)⟩)
     clear h;go_wp2;go_ret;exact⟨Ch.yes (Aa b),rfl⟩
  ·have A:((xs.length:Int) !=((sizeOfK k:Nat):Int))=true:=by rw[bne_iff_ne];omega
   have b:=Ab (show¬BU k xs from fun l=>p l.2.1);clear h s p;go_enter Tryz.func169,Tryz.ntmps169;go_wp2_with (go_at_call 100;refine(Aa y _).mono ?_;rintro e w' ⟨rfl,rfl⟩);go_ret;exact⟨Ch.no (Aa b),rfl⟩
theorem Nc(n:Nat):Ac (List.replicate n 0):=fun x a=>by rw[(List.mem_replicate.1 a).2];show 0<18446744073709551616;decide
theorem D8(a:0<sizeOfK k):k.toNat<=64*sizeOfK k/\1<=k/\k<=128:=by
 obtain⟨b,c,d⟩:=Ld a;omega
def AR(k:Int)(xs:List Nat):Bool:=decide (0<xs.length)&&decide (xs.length=sizeOfK k)&&(List.range (64*xs.length)).all fun i=>decide (i<k.toNat)|| !Ah xs i
theorem GD:AR k xs=true↔BU k xs:=by
 unfold AR BU;rw[Bool.and_eq_true,Bool.and_eq_true,decide_eq_true_eq,decide_eq_true_eq,List.all_eq_true,and_assoc];refine and_congr_right fun _=>and_congr_right fun _=>?_;constructor
 ·intro h i a
  by_cases b:i<64*xs.length
  ·have:=h i (List.mem_range.2 b)
   rw[decide_eq_false (by omega)]at this;simpa using this
  ·exact EC xs i (by omega)
 ·intro h i _
  by_cases a:i<k.toNat
  ·simp[a]
  ·rw[h i (by omega)];simp
theorem FV(h:AR k xs=true):0<sizeOfK k/\xs.length=sizeOfK k/\∀i,Ah xs i=true->i<k.toNat:=by
 obtain⟨e,c,d⟩:=GD.1 h;refine⟨by omega,c,fun i b=>?_⟩;rcases Nat.lt_or_ge i k.toNat with a|a
 ·exact a
 ·rw[d i a]at b;cases b
theorem MW{e:Ending}(h:Ch e (BU k xs)):e=.returned (.bool (AR k xs)):=by
 obtain⟨b,rfl,c⟩:=h;have:b=AR k xs:=by
  cases a:AR k xs
  ·rw[<-Bool.not_eq_true]
   intro h;rw[GD.2 (c.1 h)]at a;cases a
  ·exact c.2 (GD.1 a)
 rw[this]
def unitL(k i:Int):List Nat:=if i<0\/k<=i then []else E4 (List.replicate (sizeOfK k) 0) i true
theorem Vl(h:w'.ownsRow w.heap.size 69 1 (.slice (some ⟨w.heap.size,0,none⟩) n n) n (madeCells (Value.int .u64 0).cells (n*1)).toList):
  Own w' w.heap.size (.slice (some ⟨w.heap.size,0,none⟩) n n) (List.replicate n 0):=by
 refine⟨fun x a=>?_,?_⟩
 ·rw[(List.mem_replicate.1 a).2];show 0<18446744073709551616;decide
 ·have e:cellsU (List.replicate n 0)=(madeCells (Value.int .u64 0).cells (n*1)).toList:=by
   rw[show(Value.int .u64 0).cells=#[Value.int .u64 0] from rfl,toList_madeCells_one];simp[cellsU]
  rw[e,List.length_replicate];exact h
theorem DL(k:Int):sizeOfK k<=2:=by
 unfold sizeOfK;split
 ·omega
 ·omega
theorem Vb(k i:Int)(w:World)(J:i<=9223372036854775807):
  Calls Tryz.prog 241 #[.int .i64 k,.int .i64 i] w fun e w'=> ∃v,e=.returned v/\Own w' w.heap.size v (unitL k i)/\Below w.heap.size w w':=by
 have I:=Ab (GL k);by_cases b:i<0\/k<=i
 ·have l:=Ab (show unitL k i=[] from by unfold unitL;rw[if_pos b])
  by_cases Q:i<0
  ·have f:decide (i<0)=true:=by simp;omega
   clear b;go_enter Tryz.func241,Tryz.ntmps241;go_wp2;go_ret;exact⟨_,rfl,by rw[Aa l];exact Own.nil _ _,Below.refl _ _⟩
  ·have f:decide (i<0)=false:=by simp;omega
   have s:decide (k<=i)=true:=by simp;omega
   clear b;go_enter Tryz.func241,Tryz.ntmps241;go_wp2;go_ret;exact⟨_,rfl,by rw[Aa l];exact Own.nil _ _,Below.refl _ _⟩
 ·have l:=Ab (show unitL k i=E4 (List.replicate (sizeOfK k) 0) i true from by unfold unitL;rw[if_neg b])
  have f:decide (i<0)=false:=by simp;omega
  have s:decide (k<=i)=false:=by simp;omega
  have R:=DL k;obtain⟨N,u,y,z,A⟩:=info_parts Jj;obtain⟨E,D,c,a⟩:=run_make_full (P:=Tryz.prog) w w.heap.size 32 69 N (.int .u64 0) 1 Tryz.underlying32 u y z .i64 .i64 (sizeOfK k) (by rw[A];omega) (by unfold maxLen;omega) (Nat.le_refl _);have C:=Vl c;have o:Below w.heap.size w E:=(Below.refl _ _).grown a (Nat.le_refl _) (fun k K=>by cases K);obtain⟨O,c1,m,x⟩:=C.row;rw[List.length_replicate]at m x;have j:RowAt E (some ⟨w.heap.size,0,none⟩) (sizeOfK k) (List.replicate (sizeOfK k) 0):=by
   simp only[Value.slice.injEq]at m;rw[m.1];exact x
  clear b c a C m x;go_enter Tryz.func241,Tryz.ntmps241;go_wp2_with (go_at_call 177;refine(Aa I _).mono ?_;rintro e w' ⟨rfl,L⟩;obtain rfl:=L.symm);refine(Wo _ _ _ _ _ _ _ j (by omega) J).mono ?_;rintro e w2 ⟨v,rfl,h,d⟩;have H:=Ab h;have G:=Ab (o.trans (d.mono o.size));clear h d j;have p:=o.size;go_wp2;go_ret;exact⟨_,rfl,by rw[Aa l];exact(Aa H).mono p,Aa G⟩
end Go.Proofs.YtfpfcnfmigaphaaGreatDoor
