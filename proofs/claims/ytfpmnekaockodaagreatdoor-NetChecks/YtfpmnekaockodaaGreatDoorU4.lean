/-
  Laws that the proof stands on.
-/
import Derived.Test.YtfpmnekaockodaaGreatDoorU3
import Derived.Laws.MathBits
namespace Go.Proofs.YtfpmnekaockodaaGreatDoor
open Go.RowKit Go.Sort
set_option linter.unusedVariables false
set_option linter.unusedSimpArgs false
set_option maxRecDepth 4000
set_option maxHeartbeats 8000000
variable {L:List (List Nat×ByteArray)}{ts rs:List RV}{B g n:Nat}{a:Option Addr}{v:Value}{w w':World}
def core(r:RV):List Nat×ByteArray:=(r.xs,r.s)
def CB(w:World)(B:Nat)(ts:List RV):Prop:=∀r∈ts,r.n=0\/∃b off,r.a=some ⟨b,off,none⟩/\(b<B\/∃c m,w.heap[b]? =some (.cells c 265 m))
theorem CB.nil(w:World)(B:Nat):CB w B []:=fun r b=>by cases b
theorem CB.below(h:CB w B ts)(o:Below w.heap.size w w'):CB w' B ts:=fun r p=>by
 rcases h r p with i|⟨b,off,e,j|⟨c,m,f⟩⟩
 ·exact .inl i
 ·exact .inr ⟨b,off,e,.inl j⟩
 ·exact .inr ⟨b,off,e,.inr ⟨c,m,(o.block b (Array.getElem?_eq_some_iff.1 f).1).trans f⟩⟩
theorem CB.mono{B':Nat}(h:CB w B ts)(j:B<=B'):CB w B' ts:=fun r i=>by
 rcases h r i with f|⟨b,off,e,c|c⟩
 ·exact .inl f
 ·exact .inr ⟨b,off,e,.inl (by omega)⟩
 ·exact .inr ⟨b,off,e,.inr c⟩
theorem CB.append{us:List RV}(h:CB w B ts)(k:CB w B us):CB w B (ts++us):=fun r b=>(List.mem_append.1 b).elim (h r) (k r)
theorem Ak.lt'(h:Ak w B v rs){k:Nat}(b:v.ownBlock=some k):B<=k/\k<w.heap.size:=World.ownsRow.lt h k b
theorem Ak.blk(h:Ak w B v rs)(c:v.ownBlock=some g):∃b,w.heap[g]? =some (.cells b 73 (0,0)):=by
 rcases h.2 with⟨rfl,_⟩|⟨g',cap,b,rfl,_,e,_⟩
 ·cases c
 ·simp only[Value.ownBlock,Option.some.injEq]at c
  exact⟨b,by rw[<-c];exact e⟩
theorem QL{b:Nat}(i:Ak w B v rs)(h:b<B\/∃c m,w.heap[b]? =some (.cells c 265 m)):some b≠v.ownBlock:=fun e=>by
 obtain⟨c,j⟩:=i.blk e.symm;rcases h with h|⟨f,m,h⟩
 ·have:=(i.lt' e.symm).1;omega
 ·rw[j]at h
  simp only[Option.some.injEq,Obj.cells.injEq]at h;exact absurd h.2.1 (by decide)
theorem CB.pushed(h:CB w B ts)(q:Ak w B v rs)(p:w.grownBy w' v.ownBlock):CB w' B ts:=fun r u=>by
 rcases h r u with o|⟨b,off,e,c⟩
 ·exact .inl o
 ·have i:=QL q c
  rcases c with c|⟨f,m,j⟩
  ·exact .inr ⟨b,off,e,.inl c⟩
  ·exact .inr ⟨b,off,e,.inr ⟨f,m,(p.block b (Array.getElem?_eq_some_iff.1 j).1 i).trans j⟩⟩
theorem Ae.pushed(h:Ae w ts)(ht:CB w B ts)(o:Ak w B v rs)(m:w.grownBy w' v.ownBlock):Ae w' ts:=fun r f=>⟨by
 refine(h r f).1.kept m ?_;rcases ht r f with i|⟨b,off,e,j⟩
 ·exact .inl i
 ·refine .inr fun p c=>?_
  rw[e]at c;simp only[Option.some.injEq]at c;subst c;exact QL o j,(h r f).2⟩
theorem CB.own{B':Nat}{c:Nat}{xs:List Nat}{s:ByteArray}(h:Own w B' (.slice a n c) xs):CB w B [⟨a,n,c,xs,s⟩]:=fun r i=>by
 rw[List.mem_singleton.1 i];rcases h.2.2 with⟨e,j⟩|⟨g,cap,b,e,_,f,_⟩
 ·simp only[Value.slice.injEq]at e
  exact .inl e.2.1
 ·simp only[Value.slice.injEq]at e
  exact .inr ⟨g,0,e.1,.inr ⟨b,_,f⟩⟩
def Eo(w wr:World)(b:Option Addr)(c c1:Nat)(L:List (List Nat×ByteArray))(ts:List RV):Prop:=
 Ak wr w.heap.size (.slice b c c1) ts/\Ae wr ts/\CB wr w.heap.size ts/\ts.map core=L/\Below w.heap.size w wr
theorem Eo.nil(w:World):Eo w w none 0 0 [] []:=⟨Ak.nil _ _,Ae.nil _,CB.nil _ _,rfl,Below.refl _ _⟩
theorem Eo.below{wr w1:World}{c:Option Addr}{e c1:Nat}(h:Eo w wr c e c1 L ts)(b:Below wr.heap.size wr w1):Eo w w1 c e c1 L ts:=⟨h.1.below b,h.2.1.below b,h.2.2.1.below b,h.2.2.2.1,Ad h.2.2.2.2 b⟩
theorem Eo.push{wr w1:World}{c:Option Addr}{p c1:Nat}{r:RV}{u:Value}(h:Eo w wr c p c1 L ts)(C:Ae wr [r])(ht:CB wr w.heap.size [r])(o:Ak w1 w.heap.size u (ts++[r]))(m:wr.grownBy w1 (Value.slice c p c1).ownBlock)(A:Below w.heap.size wr w1):
  ∃b q c2,u=.slice b q c2/\Eo w w1 b q c2 (L++[core r]) (ts++[r]):=by
 obtain⟨f,x,i,y,z⟩:=h;have j:=(x.append C).pushed (i.append ht) f m;obtain⟨b,c2,e,_⟩:=o.rows j;exact⟨b,_,c2,e,by rw[<-e];exact o,j,(i.append ht).pushed f m,by rw[List.map_append,y];rfl,z.trans A⟩
def IF(rs:List RV):Prop:=∀i,i<rs.length->(rs.getD i .dflt).n<=(rs.getD i .dflt).c
theorem jX(ks:List RV)(k:Nat)(b:k<ks.length):ks.take k++[ks.getD k .dflt]=ks.take (k+1):=by
 rw[List.take_succ_eq_append_getElem b];simp[List.getD_eq_getElem?_getD,List.getElem?_eq_getElem b]
theorem Ak.shape(h:Ak w B v rs):∃a c,v=.slice a rs.length c:=by
 rcases h.2 with⟨rfl,e⟩|⟨g,cap,b,rfl,_⟩
 ·exact⟨none,0,by rw[e]⟩
 ·exact⟨_,cap,rfl⟩
theorem Ak.at'{m c:Nat}(h:Ak w B (.slice a m c) ts)(j:Ae w ts):Aj w a m ts/\m=ts.length/\m<=c/\c<=9223372036854775807:=by
 obtain⟨o,p,e,b,f,i⟩:=h.rows j;simp only[Value.slice.injEq]at e;obtain⟨rfl,rfl,rfl⟩:=e;exact⟨b,rfl,f,i⟩
theorem Tf(j:Ae w ts)(h:ts.map core=L)(c:∀x∈L,x.1.length<=10/\x.2.size<=1000):Af ts:=fun i=>by
 by_cases b:i<ts.length
 ·have f:core (ts.getD i .dflt)∈L:=by
   rw[<-h,List.getD_eq_getElem?_getD,List.getElem?_eq_getElem b];exact List.mem_map.2 ⟨_,List.getElem_mem b,rfl⟩
  have:=c _ f;have e:=(j.get b).1.1;exact⟨by rw[<-e];exact this.1,this.2⟩
 ·rw[List.getD_eq_getElem?_getD,List.getElem?_eq_none (by omega)]
  exact⟨Nat.zero_le _,Nat.zero_le _⟩
theorem Mc:Af []:=fun i=>⟨Nat.zero_le _,Nat.zero_le _⟩
theorem IF.of(h:Ae w rs):IF rs:=fun i b=>(h.get b).2
theorem Ae.of(h:Aj w a n rs)(f:IF rs):Ae w rs:=fun r j=>by
 obtain⟨i,b,rfl⟩:=List.mem_iff_getElem.1 j;have c:=h.2.1 i (by rw[<-h.1];exact b);have e:=f i b;rw[List.getD_eq_getElem?_getD,List.getElem?_eq_getElem b]at c e;exact⟨c,e⟩
def zR:RV:=⟨none,0,0,[],⟨#[]⟩⟩
def BQ(us:List RV)(k:Nat):List RV:=us.take k++List.replicate (us.length-k) zR
theorem Oz(us:List RV):BQ us 0=List.replicate us.length zR:=by simp[BQ]
theorem O3(us:List RV):BQ us us.length=us:=by simp[BQ]
theorem NH(us:List RV)(k:Nat)(b:k<=us.length):(BQ us k).length=us.length:=by simp[BQ];omega
theorem Oy(us:List RV)(k:Nat)(b:k<us.length):(BQ us k).set k (us.getD k .dflt)=BQ us (k+1):=by
 unfold BQ;have c:(us.take k).length=k:=by simp;omega
 rw[List.set_append_right _ _ (by omega),c,Nat.sub_self,List.take_succ_eq_append_getElem b,List.append_assoc,show us.length-k=(us.length-(k+1))+1 by omega,List.replicate_succ,List.set_cons_zero];simp[List.getD_eq_getElem?_getD,List.getElem?_eq_getElem b]
theorem Sy:∀(rs:List RV) (k:Nat) (r:RV),((cellsR rs).set (k*2) (.slice r.a r.n r.c)).set (k*2+1) (.string r.s)=cellsR (rs.set k r)
 |[],k,r=>by simp[cellsR]
 |x::rs,0,r=>by simp[cellsR]
 |x::rs,k+1,r=>by
  rw[show(k+1)*2=k*2+1+1 by omega];simp only[cellsR,List.set_cons_succ];rw[Sy rs k r]
theorem RI:∀n:Nat,(madeCells #[.slice none 0 0,.string ⟨#[]⟩] (n*2)).toList=cellsR (List.replicate n zR)
 |0=>by simp[madeCells,cellsR]
 |n+1=>by
  rw[List.replicate_succ',Kd,<-RI n];unfold madeCells;rw[show(n+1)*2=n*2+1+1 by omega];simp only[Array.toList_map,Array.toList_range];rw[List.range_succ,List.range_succ];simp[cellsR,zR,Nat.mul_mod_left]
theorem MY(n:Nat)(i:n<=1048576)(wx:World):(Instr.makeSlice 76 (.int .i64 (n:Int)) (.int .i64 (n:Int))).run Tryz.prog wx=.ok (.slice (some ⟨wx.heap.size,0,none⟩) n n) (wx.alloc (.cells (madeCells #[.slice none 0 0,.string ⟨#[]⟩] (n*2)) 73)):=by
 obtain⟨h,b,c,f,e⟩:=info_parts Kq;have:=run_make (P:=Tryz.prog) wx 76 73 h (.agg #[.slice none 0 0,.string ⟨#[]⟩]) Tryz.underlying76 b c .i64 .i64 (n:Int) (n:Int) (by omega) (Int.le_refl _) (by rw[e];omega) (by omega);rw[f]at this;simpa [Value.cells]using this
theorem MX(w:World)(n:Nat)(c:n<=1048576)(rs:List RV)(b:rs=List.replicate n zR):Ak (w.alloc (.cells (madeCells #[.slice none 0 0,.string ⟨#[]⟩] (n*2)) 73)) w.heap.size (.slice (some ⟨w.heap.size,0,none⟩) n n) rs:=by
 subst b;refine⟨LH _,.inr ⟨w.heap.size,n,madeCells #[.slice none 0 0,.string ⟨#[]⟩] (n*2),by simp,Nat.le_refl _,heap_alloc_new w _,by simp,by unfold maxLen;omega,by simp[size_madeCells],?_⟩⟩;rw[RI,List.take_of_length_le (by rw[LH];exact Nat.le_refl _)]
theorem Ak.stored{cap:Nat}(h:Ak w B (.slice (some ⟨g,0,none⟩) n cap) rs)(k:Nat)(r:RV):
  Ak ((w.setCell ⟨g,k*2,none⟩ (.slice r.a r.n r.c)).setCell ⟨g,k*2+1,none⟩ (.string r.s)) B (.slice (some ⟨g,0,none⟩) n cap) (rs.set k r):=by
 obtain rfl:n=rs.length:=by
  rcases h.2 with⟨e,_⟩|⟨j,b,f,e,_⟩
  ·cases e
  ·simp only[Value.slice.injEq]at e;exact e.2.1
 have i:w.ownsRow B 73 2 (.slice (some ⟨g,0,none⟩) rs.length cap) rs.length (cellsR rs):=h;have:=((i.stored (k*2) (.slice r.a r.n r.c)).1.stored (k*2+1) (.string r.s)).1;rw[Sy]at this;show World.ownsRow _ B 73 2 _ (rs.set k r).length _;rw[List.length_set];exact this
theorem Ak.keptB(h:Ak w B v rs)(b:w.grownBy w' (some g))(c:g<B):Ak w' B v rs:=by
 refine World.ownsRow.kept h b (.inr fun e=>?_);have:=(World.ownsRow.lt h g e).1;omega
theorem Rz{ops:Array Oper}{rest:List Oper}{o:Oper}{act:Act}{Q:Exit->Act->World->Prop}(c:o.guard=none)(s x:Operand)
  (z:o.op=.call {callee:=.builtin .append,args:=#[s,x],argTypes:=#[76,76]}) (B B':Nat) (v H:Value) (ts us:List RV)
  (A:act.eval s=v) (C:act.eval x=H) (h:Ak w B v ts) (r:B<=w.heap.size) (q:Ak w B' H us) (T:ts.length+us.length<=1048576)
  (u:∀E w',Ak w' B E (ts++us)->Below B w w'->wpList Tryz.prog ops Q rest (act.put o.dst E) w'):wpList Tryz.prog ops Q (o::rest) act w:=by
 obtain⟨D,y,j,m,p⟩:=info_parts Kq;have f:=q;rcases q.2 with⟨rfl,J⟩|⟨g,cap,I,rfl,P,R,N,S,O,ht⟩
 ·have i:us=[]:=List.eq_nil_of_length_eq_zero J
  subst i;refine wpList_append_own_none c s x 76 z B 73 D 2 Tryz.underlying76 y v ts.length (cellsR ts) A h C ?_;exact u v w (by rw[List.append_nil];exact h) (Below.refl _ _)
 ·refine wpList_append_own _ c s x 76 z B 73 D (.agg #[.slice none 0 0,.string ⟨#[]⟩]) 2 40 Tryz.underlying76 y j m p rfl (by decide) v ts.length (cellsR ts) A h ⟨g,0,none⟩ us.length cap (cellsR us) C (LH us) (World.ownsRow.cells f (g:=g) rfl) (Sx us) (by unfold maxLen;omega) (by omega) r ?_
  intro v' w' e b _;refine u v' w' ?_ ((Below.refl _ _).grown b r fun k K=>(World.ownsRow.lt h k K).1);show w'.ownsRow B 73 2 v' (ts++us).length (cellsR (ts++us));rw[List.length_append,Kd];exact e
variable {l:List Int}{k d s:Nat}
def sumZ:List Int->Nat
 |[]=>0
 |x::r=>x.toNat+sumZ r
theorem N0:∀(a b:List Int),sumZ (a++b)=sumZ a+sumZ b
 |[],b=>by simp[sumZ]
 |x::a,b=>by simp only[List.cons_append,sumZ,N0 a b];omega
theorem OS(l:List Int)(k:Nat)(b:k<l.length):sumZ (l.take (k+1))=sumZ (l.take k)+(l.getD k 0).toNat:=by
 rw[List.take_succ_eq_append_getElem b,N0];simp[sumZ,List.getD_eq_getElem?_getD,List.getElem?_eq_getElem b]
theorem NT(l:List Int)(k:Nat):sumZ (l.take k)<=sumZ l:=by
 have h:=N0 (l.take k) (l.drop k);rw[List.take_append_drop]at h;omega
theorem Xk(M:Nat):∀(l:List Int),(∀x∈l,x<=(M:Int))->sumZ l<=l.length*M
 |[],_=>by simp[sumZ]
 |x::r,h=>by
  have c:=Xk M r (fun y b=>h y (by simp[b]));have e:=h x (by simp);simp only[sumZ,List.length_cons,Nat.add_mul,Nat.one_mul];omega
def Ez:List Int->Nat->Nat->Nat
 |[],_,_=>0
 |y::r,j,x=>if x<y.toNat then j+1 else Ez r (j+1) (x-y.toNat)
theorem Ry(l:List Int)(k:Nat)(b:k<l.length):l.drop k=l.getD k 0::l.drop (k+1):=by
 rw[List.drop_eq_getElem_cons b];simp[List.getD_eq_getElem?_getD,List.getElem?_eq_getElem b]
theorem mV(l:List Int)(k x:Nat)(b:k<l.length)(h:x<(l.getD k 0).toNat):Ez (l.drop k) k x=k+1:=by
 rw[Ry l k b,Ez,if_pos h]
theorem pN(l:List Int)(k x:Nat)(b:k<l.length)(h:¬x<(l.getD k 0).toNat):Ez (l.drop k) k x=Ez (l.drop (k+1)) (k+1) (x-(l.getD k 0).toNat):=by
 rw[Ry l k b,Ez,if_neg h]
theorem mU(l:List Int)(j x:Nat):Ez (l.drop l.length) j x=0:=by simp[Ez]
theorem U0:∀(l:List Int) (j x:Nat),x<sumZ l->j+1<=Ez l j x/\Ez l j x<=j+l.length
 |[],j,x,h=>by simp[sumZ]at h
 |y::r,j,x,h=>by
  simp only[sumZ]at h;simp only[Ez,List.length_cons];by_cases b:x<y.toNat
  ·rw[if_pos b];omega
  ·rw[if_neg b]
   have:=U0 r (j+1) (x-y.toNat) (by omega);omega
def pickD(l:List Int)(b:Nat):Nat:=if sumZ l=0 then 0 else Ez l 0 (b%sumZ l)
theorem gx(h:sumZ l=0)(b:Nat):pickD l b=0:=if_pos h
theorem SZ(h:sumZ l≠0)(b:Nat):pickD l b=Ez l 0 (b%sumZ l):=if_neg h
theorem pM(h:sumZ l≠0)(b:Nat):1<=pickD l b/\pickD l b<=l.length:=by
 rw[SZ h];have:=U0 l 0 (b%sumZ l) (Nat.mod_lt _ (by omega));omega
def baseN(k d:Nat):Nat:=if d=1 then 1048576/k else 1048576/(d*(d-1))
def moreN(k s d:Nat):Nat:=if s=0 then 0 else if d<k/s then 1048576*s/(k*d)else if d=k/s then 1048576*s*bitLen s/k else 0
def Hj(k s d:Nat):Nat:=max 1 (baseN k d+moreN k s d)
def tableL(k s:Nat):List Int:=(List.range k).map fun i=>((Hj k s (i+1):Nat):Int)
theorem jP(k:Nat):baseN k 1=1048576/k:=if_pos rfl
theorem fL(h:d≠1):baseN k d=1048576/(d*(d-1)):=if_neg h
theorem ie(k d:Nat):moreN k 0 d=0:=if_pos rfl
theorem ib(b:s≠0)(h:d<k/s):moreN k s d=1048576*s/(k*d):=by rw[moreN,if_neg b,if_pos h]
theorem ii(b:s≠0)(h:d=k/s):moreN k s d=1048576*s*bitLen s/k:=by rw[moreN,if_neg b,if_neg (by omega),if_pos h]
theorem ig(b:s≠0)(h:k/s<d):moreN k s d=0:=by rw[moreN,if_neg b,if_neg (by omega),if_neg (by omega)]
theorem UN(k d:Nat):baseN k d<=1048576:=by
 unfold baseN;split
 ·exact Nat.div_le_self _ _
 ·exact Nat.div_le_self _ _
theorem Vt(k s d:Nat)(c:s<=128):moreN k s d<=1073741824:=by
 unfold moreN;have b:=bitLen_le8 s (by omega);have e:1048576*s*bitLen s<=1048576*128*8:=Nat.mul_le_mul (Nat.mul_le_mul_left _ c) b;have f:=Nat.div_le_self (1048576*s*bitLen s) k;have h:=Nat.div_le_self (1048576*s) (k*d);split
 ·omega
 ·split
  ·omega
  ·split
   ·omega
   ·omega
theorem Ux(k s d:Nat)(b:s<=128):1<=Hj k s d/\Hj k s d<=1074790400:=by
 have c:=UN k d;have e:=Vt k s d b;unfold Hj;omega
theorem Hd(k s:Nat):(tableL k s).length=k:=by simp[tableL]
theorem N2(k s i:Nat)(h:i<k):(tableL k s).getD i 0=((Hj k s (i+1):Nat):Int):=by
 simp[tableL,List.getD_eq_getElem?_getD,h]
theorem gu(k s:Nat)(e:k<=128)(b:s<=128):sumZ (tableL k s)<=137573171200:=by
 have:=Xk 1074790400 (tableL k s) (fun x c=>by
  obtain⟨i,_,rfl⟩:=List.mem_map.1 c;have:=(Ux k s (i+1) b).2;omega)
 rw[Hd]at this;omega
theorem gn(k s:Nat)(f:1<=k)(c:s<=128):sumZ (tableL k s)≠0:=by
 have b:=OS (tableL k s) 0 (by rw[Hd];omega);have e:=NT (tableL k s) (0+1);rw[N2 k s 0 (by omega)]at b;have:=(Ux k s (0+1) c).1;omega
variable {xs:List Int}{n B:Nat}{v:Value}{w:World}
def cellsZ(xs:List Int):List Value:=xs.map fun x=>Value.int .i64 x
theorem Gb(xs:List Int):(cellsZ xs).length=xs.length:=by simp[cellsZ]
theorem Hc(xs:List Int)(i:Nat)(h:i<xs.length):(cellsZ xs)[i]? =some (.int .i64 (xs.getD i 0)):=by
 simp[cellsZ,List.getElem?_eq_getElem h,List.getD_eq_getElem?_getD]
theorem N8(xs:List Int)(i:Nat)(x:Int):(cellsZ xs).set i (.int .i64 x)=cellsZ (xs.set i x):=by
 simp[cellsZ,List.map_set]
def IntzAt(w:World)(a:Option Addr)(n:Nat)(xs:List Int):Prop:=
 xs.length=n/\(n=0\/∃b off,a=some ⟨b,off,none⟩/\∀i,i<n->w.cell? ⟨b,off+i,none⟩=some (.int .i64 (xs.getD i 0)))
theorem IntzAt.at{a:Option Addr}(h:IntzAt w a n xs){i:Nat}(e:i<n):
  ∃b off,a=some ⟨b,off,none⟩/\∀i,i<n->w.cell? ⟨b,off+i,none⟩=some (.int .i64 (xs.getD i 0)):=by
 rcases h.2 with c|c
 ·omega
 ·exact c
theorem IntzAt.below{w':World}{a:Option Addr}(h:IntzAt w a n xs)(j:Below w.heap.size w w'):IntzAt w' a n xs:=by
 refine⟨h.1,?_⟩;rcases h.2 with f|⟨b,off,rfl,c⟩
 ·exact .inl f
 ·exact .inr ⟨b,off,rfl,fun i e=>(j.cell (World.block_lt_of_cell? w _ (c i e))).trans (c i e)⟩
theorem IntzAt.none(w:World)(a:Option Addr):IntzAt w a 0 []:=⟨rfl,.inl rfl⟩
def Am(w:World)(B:Nat)(v:Value)(xs:List Int):Prop:=w.ownsRow B 3 1 v xs.length (cellsZ xs)
theorem Am.ints(h:Am w B v xs):∃a c,v=.slice a xs.length c/\IntzAt w a xs.length xs:=by
 have b:w.ownsRow B 3 1 v xs.length (cellsZ xs):=h;rcases h.2 with⟨rfl,e⟩|⟨g,cap,f,rfl,o,p,r,q,m,ht⟩
 ·exact⟨Option.none,0,by rw[e],rfl,.inl e⟩
 ·refine⟨_,cap,rfl,rfl,.inr ⟨g,0,rfl,fun i j=>?_⟩⟩
  rw[Nat.zero_add,b.cellAt i (by omega),Hc xs i j]
theorem Am.nil(w:World)(B:Nat):Am w B (.slice none 0 0) []:=World.ownsRow_nil _ _ _ _
theorem Am.mono{B':Nat}(h:Am w B v xs)(f:B'<=B):Am w B' v xs:=by
 refine⟨h.1,?_⟩;rcases h.2 with c|⟨g,cap,b,e,i,r⟩
 ·exact .inl c
 ·exact .inr ⟨g,cap,b,e,Nat.le_trans f i,r⟩
theorem Am.below{w':World}(h:Am w B v xs)(i:Below w.heap.size w w'):Am w' B v xs:=by
 refine⟨h.1,?_⟩;rcases h.2 with e|⟨g,cap,c,f,j,b,r⟩
 ·exact .inl e
 ·exact .inr ⟨g,cap,c,f,j,(i.block g (Array.getElem?_eq_some_iff.1 b).1).trans b,r⟩
theorem Am.at(h:Am w B v xs)(m:0<xs.length):
  ∃g cap,v=.slice (some ⟨g,0,none⟩) xs.length cap/\B<=g/\g<w.heap.size/\(∀i,i<xs.length->w.cell? ⟨g,i,none⟩=some (.int .i64 (xs.getD i 0)))/\∀i,w.frozen? ⟨g,i,none⟩=false:=by
 have b:w.ownsRow B 3 1 v xs.length (cellsZ xs):=h;rcases h.2 with⟨rfl,p⟩|⟨g,cap,c,rfl,e,f,m,q,o,ht⟩
 ·omega
 ·refine⟨g,cap,rfl,e,(Array.getElem?_eq_some_iff.1 f).1,fun i j=>?_,fun i=>b.frozenAt i⟩
  rw[b.cellAt i (by omega),Hc xs i j]
theorem Am.stored{g cap:Nat}(h:Am w B (.slice (some ⟨g,0,none⟩) n cap) xs)(i:Nat)(x:Int):
  Am (w.setCell ⟨g,i,none⟩ (.int .i64 x)) B (.slice (some ⟨g,0,none⟩) n cap) (xs.set i x):=by
 obtain rfl:n=xs.length:=by
  obtain⟨a,c,e,_⟩:=h.ints;simp only[Value.slice.injEq]at e;exact e.2.1
 have b:w.ownsRow B 3 1 (.slice (some ⟨g,0,none⟩) xs.length cap) xs.length (cellsZ xs):=h;have:=(b.stored i (.int .i64 x)).1;rw[N8]at this;show World.ownsRow _ B 3 1 _ (xs.set i x).length _;rw[List.length_set];exact this
theorem OF:(Tryz.prog.info? 3).map (fun i=>(i.zero,i.size,i.bytes))=some (some (.int .i64 0),1,8):=by kernel_rfl
theorem L6(w:World)(n:Nat)(c:n<=1048576)(xs:List Int)(b:xs=List.replicate n 0):
  Am (w.alloc (.cells (madeCells #[.int .i64 0] n) 3)) w.heap.size (.slice (some ⟨w.heap.size,0,none⟩) n n) xs:=by
 subst b;refine⟨by simp[cellsZ],.inr ⟨w.heap.size,n,madeCells #[.int .i64 0] n,by simp,Nat.le_refl _,heap_alloc_new w _,by simp,by unfold maxLen;omega,by simp[size_madeCells],?_⟩⟩;rw[toList_madeCells_one,List.take_of_length_le (by simp)];simp[cellsZ]
theorem L7(n:Nat)(i:n<=1048576)(wx:World):(Instr.makeSlice 27 (.int .i64 (n:Int)) (.int .i64 (n:Int))).run Tryz.prog wx=.ok (.slice (some ⟨wx.heap.size,0,none⟩) n n) (wx.alloc (.cells (madeCells #[.int .i64 0] n) 3)):=by
 obtain⟨h,b,c,f,e⟩:=info_parts OF;have:=run_make (P:=Tryz.prog) wx 27 3 h (.int .i64 0) Tryz.underlying27 b c .i64 .i64 (n:Int) (n:Int) (by omega) (Int.le_refl _) (by rw[e];omega) (by omega);rw[f]at this;simpa [Value.cells]using this
def Df(fs:List Int)(k:Nat):List Int:=fs.take k++List.replicate (fs.length-k) 0
theorem Nw(fs:List Int):Df fs 0=List.replicate fs.length 0:=by simp[Df]
theorem NI(fs:List Int):Df fs fs.length=fs:=by simp[Df]
theorem LC(fs:List Int)(k:Nat)(b:k<=fs.length):(Df fs k).length=fs.length:=by simp[Df];omega
theorem Nv(fs:List Int)(k:Nat)(b:k<fs.length):(Df fs k).set k (fs.getD k 0)=Df fs (k+1):=by
 unfold Df;have c:(fs.take k).length=k:=by simp;omega
 rw[List.set_append_right _ _ (by omega),c,Nat.sub_self,List.take_succ_eq_append_getElem b,List.append_assoc,show fs.length-k=(fs.length-(k+1))+1 by omega,List.replicate_succ,List.set_cons_zero];simp[List.getD_eq_getElem?_getD,List.getElem?_eq_getElem b]
theorem RY{ops:Array Oper}{rest:List Oper}{o:Oper}{act:Act}{Q:Exit->Act->World->Prop}(i:o.guard=none)(s x:Operand)
  (I:o.op=.call {callee:=.builtin .append,args:=#[s,x],argTypes:=#[27,27]}) (B:Nat) (v:Value) (xs:List Int) (y:Int)
  (J:act.eval s=v) (N:act.eval x=.slice (some ⟨w.heap.size,0,none⟩) 1 1) (h:Am w B v xs) (f:B<=w.heap.size) (P:xs.length<=1048576)
  (C:∀A w',Am w' B A (xs++[y])->Below B w w'->wpList Tryz.prog ops Q rest (act.put o.dst A) w'):wpList Tryz.prog ops Q (o::rest) act (w.alloc (.cells #[.int .i64 y] 3)):=by
 obtain⟨O,E,m,p,q⟩:=info_parts OF;have e:Below w.heap.size w (w.alloc (.cells #[.int .i64 y] 3)):=(Below.refl _ _).alloc (Nat.le_refl _) _;have r:(w.alloc (.cells #[.int .i64 y] 3)).ownsRow B 3 1 v xs.length (cellsZ xs):=h.below e
 refine wpList_append_own _ i s x 27 I B 3 O (.int .i64 0) 1 8 Tryz.underlying27 E m p q rfl (by decide) v xs.length (cellsZ xs) J r ⟨w.heap.size,0,none⟩ 1 1 [.int .i64 y] N rfl (fun j u z=>?_)
  (fun u K=>by rw[List.mem_singleton.1 K];rfl) (by unfold maxLen;omega) (by omega) (Nat.le_trans f e.size) ?_
 ·match j with
  |0=>
   have D:(w.alloc (.cells #[.int .i64 y] 3)).cell? ⟨w.heap.size,0,none⟩=some (.int .i64 y):=by rw[World.cell?_alloc_at _ _ _ _ rfl];rfl
   simpa [Addr.add,D]using z
  |j+1=>simp at z
 ·intro v' w' b c _
  refine C v' w' ?_ ((e.mono f).grown c (Nat.le_trans f e.size) fun k H=>(r.lt k H).1);rw[show cellsZ xs++[.int .i64 y]=cellsZ (xs++[y]) by simp[cellsZ]]at b;show w'.ownsRow B 3 1 v' (xs++[y]).length (cellsZ (xs++[y]));rw[List.length_append];exact b
theorem Vr(x:Int)(ts:Array TypeId)(t:TypeId)(w:World):(Builtin.max_ ts t #[.int .i64 0,.int .i64 x]).run Tryz.prog w=.ok (.int .i64 ((x.toNat:Nat):Int)) w:=by
 rw[run_max_int2];congr 2;split<;>omega
theorem qQ(x:Nat)(ts:Array TypeId)(t:TypeId)(w:World):(Builtin.max_ ts t #[.int .i64 1,.int .i64 (x:Int)]).run Tryz.prog w=.ok (.int .i64 ((max 1 x:Nat):Int)) w:=by
 rw[run_max_int2];congr 2;split<;>omega
theorem JF(x y:Int)(ts:Array TypeId)(t:TypeId)(w:World):(Builtin.max_ ts t #[.int .i64 x,.int .i64 y]).run Tryz.prog w=.ok (.int .i64 (max x y)) w:=by
 rw[run_max_int2];congr 2;split<;>omega
theorem Iv(x y:Int)(ts:Array TypeId)(t:TypeId)(w:World):(Builtin.min_ ts t #[.int .i64 x,.int .i64 y]).run Tryz.prog w=.ok (.int .i64 (min x y)) w:=by
 rw[run_min_int2];congr 2;split<;>omega
theorem Own.at'{w:World}{B:Nat}{a:Option Addr}{n c:Nat}{xs:List Nat}(h:Own w B (.slice a n c) xs):n=xs.length/\RowAt w a xs.length xs:=by
 obtain⟨f,c1,e,b⟩:=h.row;simp only[Value.slice.injEq]at e;obtain⟨rfl,rfl,rfl⟩:=e;exact⟨rfl,b⟩
theorem Ar.at{w:World}{B:Nat}{v:Value}{ss:List ByteArray}(h:Ar w B v ss)(m:0<ss.length):
  ∃g cap,v=.slice (some ⟨g,0,none⟩) ss.length cap/\B<=g/\g<w.heap.size/\(∀i,i<ss.length->w.cell? ⟨g,i,none⟩=some (.string (ss.getD i ByteArray.empty)))/\∀i,w.frozen? ⟨g,i,none⟩=false:=by
 have b:w.ownsRow B 9 1 v ss.length (BL ss):=h;rcases h.2 with⟨rfl,p⟩|⟨g,cap,c,rfl,e,f,m,q,o,ht⟩
 ·omega
 ·refine⟨g,cap,rfl,e,(Array.getElem?_eq_some_iff.1 f).1,fun i j=>?_,fun i=>b.frozenAt i⟩
  rw[b.cellAt i (by omega),Sz ss i j]
theorem Ar.stored{w:World}{B g cap n:Nat}{ss:List ByteArray}(h:Ar w B (.slice (some ⟨g,0,none⟩) n cap) ss)(i:Nat)(x:ByteArray):
  Ar (w.setCell ⟨g,i,none⟩ (.string x)) B (.slice (some ⟨g,0,none⟩) n cap) (ss.set i x):=by
 obtain rfl:n=ss.length:=by
  obtain⟨a,c,e,_⟩:=h.texts;simp only[Value.slice.injEq]at e;exact e.2.1
 have b:w.ownsRow B 9 1 (.slice (some ⟨g,0,none⟩) ss.length cap) ss.length (BL ss):=h;have:=(b.stored i (.string x)).1;rw[show(BL ss).set i (.string x)=BL (ss.set i x) by simp[BL,List.map_set]]at this;show World.ownsRow _ B 9 1 _ (ss.set i x).length _;rw[List.length_set];exact this
theorem Kx(w:World)(n:Nat)(c:n<=1048576)(ss:List ByteArray)(b:ss=List.replicate n ByteArray.empty):
  Ar (w.alloc (.cells (madeCells #[.string ByteArray.empty] n) 9)) w.heap.size (.slice (some ⟨w.heap.size,0,none⟩) n n) ss:=by
 subst b;refine⟨by simp[BL],.inr ⟨w.heap.size,n,madeCells #[.string ByteArray.empty] n,by simp,Nat.le_refl _,heap_alloc_new w _,by simp,by unfold maxLen;omega,by simp[size_madeCells],?_⟩⟩;rw[toList_madeCells_one,List.take_of_length_le (by simp)];simp[BL]
theorem Of(n:Nat)(i:n<=1048576)(wx:World):(Instr.makeSlice 66 (.int .i64 (n:Int)) (.int .i64 (n:Int))).run Tryz.prog wx=.ok (.slice (some ⟨wx.heap.size,0,none⟩) n n) (wx.alloc (.cells (madeCells #[.string ByteArray.empty] n) 9)):=by
 obtain⟨h,b,c,f,e⟩:=info_parts L3;have:=run_make (P:=Tryz.prog) wx 66 9 h (.string ByteArray.empty) Tryz.underlying66 b c .i64 .i64 (n:Int) (n:Int) (by omega) (Int.le_refl _) (by rw[e];omega) (by omega);rw[f]at this;simpa [Value.cells]using this
end Go.Proofs.YtfpmnekaockodaaGreatDoor
