/- Laws for the proof. -/
import Derived.Test.YtfpmnekaockodaaGreatDoorU3
import Derived.Laws.MathBits
import Derived.Maps.RangeWalk
import Derived.Maps.OwnSet
import Derived.Deep.RegionHeld
namespace Go.Proofs.YtfpmnekaockodaaGreatDoor
open Go.RowKit Go.Sort
set_option linter.all false
set_option maxRecDepth 4000
set_option maxHeartbeats 8000000
variable {L:List (List Nat×ByteArray)}{ts rs:List RV}{B g n:Nat}{a:Option Addr}{v:Value}{w w':World}
def core(r:RV):List Nat×ByteArray:=(r.xs,r.s)
def CB(w:World)(B:Nat)(ts:List RV):Prop:=∀r∈ts,r.n=0\/∃b off,r.a=some ⟨b,off,none⟩/\(b<B\/∃e m,w.heap[b]? =some (.cells e 265 m))
theorem CB.nil(w:World)(B:Nat):CB w B []:=fun r b=>by cases b
theorem CB.below(h:CB w B ts)(y:Below w.heap.size w w'):CB w' B ts:=fun r z=>by
 rcases h r z with u|⟨b,off,e,x|⟨i,m,q⟩⟩
 ·exact .inl u
 ·exact .inr ⟨b,off,e,.inl x⟩
 ·exact .inr ⟨b,off,e,.inr ⟨i,m,(y.block b (Array.getElem?_eq_some_iff.1 q).1).trans q⟩⟩
theorem CB.mono{B':Nat}(h:CB w B ts)(u:B<=B'):CB w B' ts:=fun r q=>by
 rcases h r q with m|⟨b,off,e,i|i⟩
 ·exact .inl m
 ·exact .inr ⟨b,off,e,.inl (by omega)⟩
 ·exact .inr ⟨b,off,e,.inr i⟩
theorem CB.append{us:List RV}(h:CB w B ts)(k:CB w B us):CB w B (ts++us):=fun r b=>(List.mem_append.1 b).elim (h r) (k r)
theorem Ak.lt'(h:Ak w B v rs){k:Nat}(b:v.ownBlock=some k):B<=k/\k<w.heap.size:=World.ownsRow.lt h k b
theorem Ak.blk(h:Ak w B v rs)(e:v.ownBlock=some g):∃b,w.heap[g]? =some (.cells b 73 (0,0)):=by
 rcases h.2 with⟨rfl,_⟩|⟨g',cap,b,rfl,_,i,_⟩
 ·cases e
 ·simp only[Value.ownBlock,Option.some.injEq]at e
  exact⟨b,by rw[<-e];exact i⟩
theorem QB{b:Nat}(r:Ak w B v rs)(h:b<B\/∃i m,w.heap[b]? =some (.cells i 265 m)):some b≠v.ownBlock:=fun e=>by
 obtain⟨i,u⟩:=r.blk e.symm;rcases h with h|⟨q,m,h⟩
 ·have:=(r.lt' e.symm).1;omega
 ·rw[u]at h
  simp only[Option.some.injEq,Obj.cells.injEq]at h;exact absurd h.2.1 (by decide)
theorem CB.pushed(h:CB w B ts)(A:Ak w B v rs)(z:w.grownBy w' v.ownBlock):CB w' B ts:=fun r C=>by
 rcases h r C with y|⟨b,off,e,i⟩
 ·exact .inl y
 ·have u:=QB A i
  rcases i with i|⟨q,m,x⟩
  ·exact .inr ⟨b,off,e,.inl i⟩
  ·exact .inr ⟨b,off,e,.inr ⟨q,m,(z.block b (Array.getElem?_eq_some_iff.1 x).1 u).trans x⟩⟩
theorem Ae.pushed(h:Ae w ts)(ht:CB w B ts)(y:Ak w B v rs)(x:w.grownBy w' v.ownBlock):Ae w' ts:=fun r m=>⟨by
 refine(h r m).1.kept x ?_;rcases ht r m with q|⟨b,off,e,u⟩
 ·exact .inl q
 ·refine .inr fun z i=>?_
  rw[e]at i;simp only[Option.some.injEq]at i;subst i;exact QB y u,(h r m).2⟩
theorem CB.own{B':Nat}{c:Nat}{xs:List Nat}{s:ByteArray}(h:Own w B' (.slice a n c) xs):CB w B [⟨a,n,c,xs,s⟩]:=fun r m=>by
 rw[List.mem_singleton.1 m];rcases h.2.2 with⟨e,q⟩|⟨g,cap,b,e,_,i,_⟩
 ·simp only[Value.slice.injEq]at e
  exact .inl e.2.1
 ·simp only[Value.slice.injEq]at e
  exact .inr ⟨g,0,e.1,.inr ⟨b,_,i⟩⟩
def Es(w wr:World)(b:Option Addr)(e c1:Nat)(L:List (List Nat×ByteArray))(ts:List RV):Prop:=
 Ak wr w.heap.size (.slice b e c1) ts/\Ae wr ts/\CB wr w.heap.size ts/\ts.map core=L/\Below w.heap.size w wr
theorem Es.nil(w:World):Es w w none 0 0 [] []:=⟨Ak.nil _ _,Ae.nil _,CB.nil _ _,rfl,Below.refl _ _⟩
theorem Es.below{wr w1:World}{e:Option Addr}{i c1:Nat}(h:Es w wr e i c1 L ts)(b:Below wr.heap.size wr w1):Es w w1 e i c1 L ts:=⟨h.1.below b,h.2.1.below b,h.2.2.1.below b,h.2.2.2.1,Ad h.2.2.2.2 b⟩
theorem Es.push{wr w1:World}{i:Option Addr}{z c1:Nat}{r:RV}{C:Value}(h:Es w wr i z c1 L ts)(O:Ae wr [r])(ht:CB wr w.heap.size [r])(y:Ak w1 w.heap.size C (ts++[r]))(x:wr.grownBy w1 (Value.slice i z c1).ownBlock)(J:Below w.heap.size wr w1):
  ∃b A c2,C=.slice b A c2/\Es w w1 b A c2 (L++[core r]) (ts++[r]):=by
 obtain⟨m,E,q,H,I⟩:=h;have u:=(E.append O).pushed (q.append ht) m x;obtain⟨b,c2,e,_⟩:=y.rows u;exact⟨b,_,c2,e,by rw[<-e];exact y,u,(q.append ht).pushed m x,by rw[List.map_append,H];rfl,I.trans J⟩
def IJ(rs:List RV):Prop:=∀i,i<rs.length->(rs.getD i .dflt).n<=(rs.getD i .dflt).c
theorem jo(ks:List RV)(k:Nat)(b:k<ks.length):ks.take k++[ks.getD k .dflt]=ks.take (k+1):=by
 rw[List.take_succ_eq_append_getElem b];simp[List.getD_eq_getElem?_getD,List.getElem?_eq_getElem b]
theorem Ak.shape(h:Ak w B v rs):∃a c,v=.slice a rs.length c:=by
 rcases h.2 with⟨rfl,e⟩|⟨g,cap,b,rfl,_⟩
 ·exact⟨none,0,by rw[e]⟩
 ·exact⟨_,cap,rfl⟩
theorem Ak.at'{m c:Nat}(h:Ak w B (.slice a m c) ts)(r:Ae w ts):Aj w a m ts/\m=ts.length/\m<=c/\c<=9223372036854775807:=by
 obtain⟨u,x,e,b,i,q⟩:=h.rows r;simp only[Value.slice.injEq]at e;obtain⟨rfl,rfl,rfl⟩:=e;exact⟨b,rfl,i,q⟩
theorem Tl(r:Ae w ts)(h:ts.map core=L)(e:∀x∈L,x.1.length<=10/\x.2.size<=1000):Af ts:=fun i=>by
 by_cases b:i<ts.length
 ·have q:core (ts.getD i .dflt)∈L:=by
   rw[<-h,List.getD_eq_getElem?_getD,List.getElem?_eq_getElem b];exact List.mem_map.2 ⟨_,List.getElem_mem b,rfl⟩
  have:=e _ q;have m:=(r.get b).1.1;exact⟨by rw[<-m];exact this.1,this.2⟩
 ·rw[List.getD_eq_getElem?_getD,List.getElem?_eq_none (by omega)]
  exact⟨Nat.zero_le _,Nat.zero_le _⟩
theorem L6:Af []:=fun i=>⟨Nat.zero_le _,Nat.zero_le _⟩
theorem IJ.of(h:Ae w rs):IJ rs:=fun i b=>(h.get b).2
theorem Ae.of(h:Aj w a n rs)(q:IJ rs):Ae w rs:=fun r u=>by
 obtain⟨i,b,rfl⟩:=List.mem_iff_getElem.1 u;have e:=h.2.1 i (by rw[<-h.1];exact b);have m:=q i b;rw[List.getD_eq_getElem?_getD,List.getElem?_eq_getElem b]at e m;exact⟨e,m⟩
def zR:RV:=⟨none,0,0,[],⟨#[]⟩⟩
def BR(us:List RV)(k:Nat):List RV:=us.take k++List.replicate (us.length-k) zR
theorem OF(us:List RV):BR us 0=List.replicate us.length zR:=by simp[BR]
theorem O8(us:List RV):BR us us.length=us:=by simp[BR]
theorem NP(us:List RV)(k:Nat)(b:k<=us.length):(BR us k).length=us.length:=by simp[BR];omega
theorem OE(us:List RV)(k:Nat)(b:k<us.length):(BR us k).set k (us.getD k .dflt)=BR us (k+1):=by
 unfold BR;have e:(us.take k).length=k:=by simp;omega
 rw[List.set_append_right _ _ (by omega),e,Nat.sub_self,List.take_succ_eq_append_getElem b,List.append_assoc,show us.length-k=(us.length-(k+1))+1 by omega,List.replicate_succ,List.set_cons_zero];simp[List.getD_eq_getElem?_getD,List.getElem?_eq_getElem b]
theorem SB:∀(rs:List RV) (k:Nat) (r:RV),((cellsR rs).set (k*2) (.slice r.a r.n r.c)).set (k*2+1) (.string r.s)=cellsR (rs.set k r)
 |[],k,r=>by simp[cellsR]
 |x::rs,0,r=>by simp[cellsR]
 |x::rs,k+1,r=>by
  rw[show(k+1)*2=k*2+1+1 by omega];simp only[cellsR,List.set_cons_succ];rw[SB rs k r]
theorem RR:∀n:Nat,(madeCells #[.slice none 0 0,.string ⟨#[]⟩] (n*2)).toList=cellsR (List.replicate n zR)
 |0=>by simp[madeCells,cellsR]
 |n+1=>by
  rw[List.replicate_succ',Kh,<-RR n];unfold madeCells;rw[show(n+1)*2=n*2+1+1 by omega];simp only[Array.toList_map,Array.toList_range];rw[List.range_succ,List.range_succ];simp[cellsR,zR,Nat.mul_mod_left]
theorem M2(n:Nat)(q:n<=1048576)(wx:World):(Instr.makeSlice 76 (.int .i64 (n:Int)) (.int .i64 (n:Int))).run Tryz.prog wx=.ok (.slice (some ⟨wx.heap.size,0,none⟩) n n) (wx.alloc (.cells (madeCells #[.slice none 0 0,.string ⟨#[]⟩] (n*2)) 73)):=by
 obtain⟨m,b,e,i,h⟩:=info_parts Ku;have:=run_make (P:=Tryz.prog) wx 76 73 m (.agg #[.slice none 0 0,.string ⟨#[]⟩]) Tryz.underlying76 b e .i64 .i64 (n:Int) (n:Int) (by omega) (Int.le_refl _) (by rw[h];omega) (by omega);rw[i]at this;simpa [Value.cells]using this
theorem M1(w:World)(n:Nat)(e:n<=1048576)(rs:List RV)(b:rs=List.replicate n zR):Ak (w.alloc (.cells (madeCells #[.slice none 0 0,.string ⟨#[]⟩] (n*2)) 73)) w.heap.size (.slice (some ⟨w.heap.size,0,none⟩) n n) rs:=by
 subst b;refine⟨LM _,.inr ⟨w.heap.size,n,madeCells #[.slice none 0 0,.string ⟨#[]⟩] (n*2),by simp,Nat.le_refl _,heap_alloc_new w _,by simp,by unfold maxLen;omega,by simp[size_madeCells],?_⟩⟩;rw[RR,List.take_of_length_le (by rw[LM];exact Nat.le_refl _)]
theorem Ak.stored{cap:Nat}(h:Ak w B (.slice (some ⟨g,0,none⟩) n cap) rs)(k:Nat)(r:RV):
  Ak ((w.setCell ⟨g,k*2,none⟩ (.slice r.a r.n r.c)).setCell ⟨g,k*2+1,none⟩ (.string r.s)) B (.slice (some ⟨g,0,none⟩) n cap) (rs.set k r):=by
 obtain rfl:n=rs.length:=by
  rcases h.2 with⟨e,_⟩|⟨q,b,i,e,_⟩
  ·cases e
  ·simp only[Value.slice.injEq]at e;exact e.2.1
 have m:w.ownsRow B 73 2 (.slice (some ⟨g,0,none⟩) rs.length cap) rs.length (cellsR rs):=h;have:=((m.stored (k*2) (.slice r.a r.n r.c)).1.stored (k*2+1) (.string r.s)).1;rw[SB]at this;show World.ownsRow _ B 73 2 _ (rs.set k r).length _;rw[List.length_set];exact this
theorem Ak.keptB(h:Ak w B v rs)(b:w.grownBy w' (some g))(i:g<B):Ak w' B v rs:=by
 refine World.ownsRow.kept h b (.inr fun e=>?_);have:=(World.ownsRow.lt h g e).1;omega
theorem RD{ops:Array Oper}{rest:List Oper}{o:Oper}{act:Act}{Q:Exit->Act->World->Prop}(e:o.guard=none)(s x:Operand)
  (H:o.op=.call {callee:=.builtin .append,args:=#[s,x],argTypes:=#[76,76]}) (B B':Nat) (v R:Value) (ts us:List RV)
  (I:act.eval s=v) (J:act.eval x=R) (h:Ak w B v ts) (A:B<=w.heap.size) (z:Ak w B' R us) (hn:ts.length+us.length<=1048576)
  (C:∀P w',Ak w' B P (ts++us)->Below B w w'->wpList Tryz.prog ops Q rest (act.put o.dst P) w'):wpList Tryz.prog ops Q (o::rest) act w:=by
 obtain⟨O,E,r,u,y⟩:=info_parts Ku;have m:=z;rcases z.2 with⟨rfl,V⟩|⟨g,cap,T,rfl,Z,hg,X,hm,Y,ht⟩
 ·have q:us=[]:=List.eq_nil_of_length_eq_zero V
  subst q;refine wpList_append_own_none e s x 76 H B 73 O 2 Tryz.underlying76 E v ts.length (cellsR ts) I h J ?_;exact C v w (by rw[List.append_nil];exact h) (Below.refl _ _)
 ·refine wpList_append_own _ e s x 76 H B 73 O (.agg #[.slice none 0 0,.string ⟨#[]⟩]) 2 40 Tryz.underlying76 E r u y rfl (by decide) v ts.length (cellsR ts) I h ⟨g,0,none⟩ us.length cap (cellsR us) J (LM us) (World.ownsRow.cells m (g:=g) rfl) (SA us) (by unfold maxLen;omega) (by omega) A ?_
  intro v' w' i b _;refine C v' w' ?_ ((Below.refl _ _).grown b A fun k W=>(World.ownsRow.lt h k W).1);show w'.ownsRow B 73 2 v' (ts++us).length (cellsR (ts++us));rw[List.length_append,Kh];exact i
variable {l:List Int}{k d s:Nat}
def sumZ:List Int->Nat
 |[]=>0
 |x::r=>x.toNat+sumZ r
theorem N5:∀(a b:List Int),sumZ (a++b)=sumZ a+sumZ b
 |[],b=>by simp[sumZ]
 |x::a,b=>by simp only[List.cons_append,sumZ,N5 a b];omega
theorem OW(l:List Int)(k:Nat)(b:k<l.length):sumZ (l.take (k+1))=sumZ (l.take k)+(l.getD k 0).toNat:=by
 rw[List.take_succ_eq_append_getElem b,N5];simp[sumZ,List.getD_eq_getElem?_getD,List.getElem?_eq_getElem b]
theorem N0(l:List Int)(k:Nat):sumZ (l.take k)<=sumZ l:=by
 have h:=N5 (l.take k) (l.drop k);rw[List.take_append_drop]at h;omega
theorem Xw(M:Nat):∀(l:List Int),(∀x∈l,x<=(M:Int))->sumZ l<=l.length*M
 |[],_=>by simp[sumZ]
 |x::r,h=>by
  have e:=Xw M r (fun y b=>h y (by simp[b]));have i:=h x (by simp);simp only[sumZ,List.length_cons,Nat.add_mul,Nat.one_mul];omega
def EC:List Int->Nat->Nat->Nat
 |[],_,_=>0
 |y::r,j,x=>if x<y.toNat then j+1 else EC r (j+1) (x-y.toNat)
theorem RC(l:List Int)(k:Nat)(b:k<l.length):l.drop k=l.getD k 0::l.drop (k+1):=by
 rw[List.drop_eq_getElem_cons b];simp[List.getD_eq_getElem?_getD,List.getElem?_eq_getElem b]
theorem my(l:List Int)(k x:Nat)(b:k<l.length)(h:x<(l.getD k 0).toNat):EC (l.drop k) k x=k+1:=by
 rw[RC l k b,EC,if_pos h]
theorem ri(l:List Int)(k x:Nat)(b:k<l.length)(h:¬x<(l.getD k 0).toNat):EC (l.drop k) k x=EC (l.drop (k+1)) (k+1) (x-(l.getD k 0).toNat):=by
 rw[RC l k b,EC,if_neg h]
theorem mx(l:List Int)(j x:Nat):EC (l.drop l.length) j x=0:=by simp[EC]
theorem Wf:∀(l:List Int) (j x:Nat),x<sumZ l->j+1<=EC l j x/\EC l j x<=j+l.length
 |[],j,x,h=>by simp[sumZ]at h
 |y::r,j,x,h=>by
  simp only[sumZ]at h;simp only[EC,List.length_cons];by_cases b:x<y.toNat
  ·rw[if_pos b];omega
  ·rw[if_neg b]
   have:=Wf r (j+1) (x-y.toNat) (by omega);omega
def pickD(l:List Int)(b:Nat):Nat:=if sumZ l=0 then 0 else EC l 0 (b%sumZ l)
theorem iV(h:sumZ l=0)(b:Nat):pickD l b=0:=if_pos h
theorem Ta(h:sumZ l≠0)(b:Nat):pickD l b=EC l 0 (b%sumZ l):=if_neg h
theorem rh(h:sumZ l≠0)(b:Nat):1<=pickD l b/\pickD l b<=l.length:=by
 rw[Ta h];have:=Wf l 0 (b%sumZ l) (Nat.mod_lt _ (by omega));omega
def baseN(k d:Nat):Nat:=if d=1 then 1048576/k else 1048576/(d*(d-1))
def moreN(k s d:Nat):Nat:=if s=0 then 0 else if d<k/s then 1048576*s/(k*d)else if d=k/s then 1048576*s*bitLen s/k else 0
def Hp(k s d:Nat):Nat:=max 1 (baseN k d+moreN k s d)
def tableL(k s:Nat):List Int:=(List.range k).map fun i=>((Hp k s (i+1):Nat):Int)
theorem je(k:Nat):baseN k 1=1048576/k:=if_pos rfl
theorem fY(h:d≠1):baseN k d=1048576/(d*(d-1)):=if_neg h
theorem jI(k d:Nat):moreN k 0 d=0:=if_pos rfl
theorem jH(b:s≠0)(h:d<k/s):moreN k s d=1048576*s/(k*d):=by rw[moreN,if_neg b,if_pos h]
theorem jK(b:s≠0)(h:d=k/s):moreN k s d=1048576*s*bitLen s/k:=by rw[moreN,if_neg b,if_neg (by omega),if_pos h]
theorem jJ(b:s≠0)(h:k/s<d):moreN k s d=0:=by rw[moreN,if_neg b,if_neg (by omega),if_neg (by omega)]
theorem UW(k d:Nat):baseN k d<=1048576:=by
 unfold baseN;split
 ·exact Nat.div_le_self _ _
 ·exact Nat.div_le_self _ _
theorem U3(k s d:Nat)(e:s<=128):moreN k s d<=1073741824:=by
 unfold moreN;have b:=bitLen_le8 s (by omega);have h:1048576*s*bitLen s<=1048576*128*8:=Nat.mul_le_mul (Nat.mul_le_mul_left _ e) b;have i:=Nat.div_le_self (1048576*s*bitLen s) k;have m:=Nat.div_le_self (1048576*s) (k*d);split
 ·omega
 ·split
  ·omega
  ·split
   ·omega
   ·omega
theorem UI(k s d:Nat)(b:s<=128):1<=Hp k s d/\Hp k s d<=1074790400:=by
 have e:=UW k d;have h:=U3 k s d b;unfold Hp;omega
theorem Hb(k s:Nat):(tableL k s).length=k:=by simp[tableL]
theorem Oc(k s i:Nat)(h:i<k):(tableL k s).getD i 0=((Hp k s (i+1):Nat):Int):=by
 simp[tableL,List.getD_eq_getElem?_getD,h]
theorem jm(k s:Nat)(h:k<=128)(b:s<=128):sumZ (tableL k s)<=137573171200:=by
 have:=Xw 1074790400 (tableL k s) (fun x e=>by
  obtain⟨i,_,rfl⟩:=List.mem_map.1 e;have:=(UI k s (i+1) b).2;omega)
 rw[Hb]at this;omega
theorem jl(k s:Nat)(i:1<=k)(e:s<=128):sumZ (tableL k s)≠0:=by
 have b:=OW (tableL k s) 0 (by rw[Hb];omega);have h:=N0 (tableL k s) (0+1);rw[Oc k s 0 (by omega)]at b;have:=(UI k s (0+1) e).1;omega
variable {xs:List Int}{n B:Nat}{v:Value}{w:World}
def cellsZ(xs:List Int):List Value:=xs.map fun x=>Value.int .i64 x
theorem Gi(xs:List Int):(cellsZ xs).length=xs.length:=by simp[cellsZ]
theorem Hl(xs:List Int)(i:Nat)(h:i<xs.length):(cellsZ xs)[i]? =some (.int .i64 (xs.getD i 0)):=by
 simp[cellsZ,List.getElem?_eq_getElem h,List.getD_eq_getElem?_getD]
theorem Ol(xs:List Int)(i:Nat)(x:Int):(cellsZ xs).set i (.int .i64 x)=cellsZ (xs.set i x):=by
 simp[cellsZ,List.map_set]
def IntzAt(w:World)(a:Option Addr)(n:Nat)(xs:List Int):Prop:=
 xs.length=n/\(n=0\/∃b off,a=some ⟨b,off,none⟩/\∀i,i<n->w.cell? ⟨b,off+i,none⟩=some (.int .i64 (xs.getD i 0)))
theorem IntzAt.at{a:Option Addr}(h:IntzAt w a n xs){i:Nat}(m:i<n):
  ∃b off,a=some ⟨b,off,none⟩/\∀i,i<n->w.cell? ⟨b,off+i,none⟩=some (.int .i64 (xs.getD i 0)):=by
 rcases h.2 with e|e
 ·omega
 ·exact e
theorem IntzAt.below{w':World}{a:Option Addr}(h:IntzAt w a n xs)(r:Below w.heap.size w w'):IntzAt w' a n xs:=by
 refine⟨h.1,?_⟩;rcases h.2 with q|⟨b,off,rfl,e⟩
 ·exact .inl q
 ·exact .inr ⟨b,off,rfl,fun i m=>(r.cell (World.block_lt_of_cell? w _ (e i m))).trans (e i m)⟩
theorem IntzAt.none(w:World)(a:Option Addr):IntzAt w a 0 []:=⟨rfl,.inl rfl⟩
def Am(w:World)(B:Nat)(v:Value)(xs:List Int):Prop:=w.ownsRow B 3 1 v xs.length (cellsZ xs)
theorem Am.ints(h:Am w B v xs):∃a c,v=.slice a xs.length c/\IntzAt w a xs.length xs:=by
 have b:w.ownsRow B 3 1 v xs.length (cellsZ xs):=h;rcases h.2 with⟨rfl,e⟩|⟨g,cap,m,rfl,u,x,z,y,r,ht⟩
 ·exact⟨Option.none,0,by rw[e],rfl,.inl e⟩
 ·refine⟨_,cap,rfl,rfl,.inr ⟨g,0,rfl,fun i q=>?_⟩⟩
  rw[Nat.zero_add,b.cellAt i (by omega),Hl xs i q]
theorem Am.nil(w:World)(B:Nat):Am w B (.slice none 0 0) []:=World.ownsRow_nil _ _ _ _
theorem Am.mono{B':Nat}(h:Am w B v xs)(m:B'<=B):Am w B' v xs:=by
 refine⟨h.1,?_⟩;rcases h.2 with e|⟨g,cap,b,i,q,r⟩
 ·exact .inl e
 ·exact .inr ⟨g,cap,b,i,Nat.le_trans m q,r⟩
theorem Am.below{w':World}(h:Am w B v xs)(q:Below w.heap.size w w'):Am w' B v xs:=by
 refine⟨h.1,?_⟩;rcases h.2 with i|⟨g,cap,e,m,u,b,r⟩
 ·exact .inl i
 ·exact .inr ⟨g,cap,e,m,u,(q.block g (Array.getElem?_eq_some_iff.1 b).1).trans b,r⟩
theorem Am.at(h:Am w B v xs)(u:0<xs.length):
  ∃g cap,v=.slice (some ⟨g,0,none⟩) xs.length cap/\B<=g/\g<w.heap.size/\(∀i,i<xs.length->w.cell? ⟨g,i,none⟩=some (.int .i64 (xs.getD i 0)))/\∀i,w.frozen? ⟨g,i,none⟩=false:=by
 have b:w.ownsRow B 3 1 v xs.length (cellsZ xs):=h;rcases h.2 with⟨rfl,y⟩|⟨g,cap,e,rfl,m,q,u,z,x,ht⟩
 ·omega
 ·refine⟨g,cap,rfl,m,(Array.getElem?_eq_some_iff.1 q).1,fun i r=>?_,fun i=>b.frozenAt i⟩
  rw[b.cellAt i (by omega),Hl xs i r]
theorem Am.stored{g cap:Nat}(h:Am w B (.slice (some ⟨g,0,none⟩) n cap) xs)(i:Nat)(x:Int):
  Am (w.setCell ⟨g,i,none⟩ (.int .i64 x)) B (.slice (some ⟨g,0,none⟩) n cap) (xs.set i x):=by
 obtain rfl:n=xs.length:=by
  obtain⟨a,c,e,_⟩:=h.ints;simp only[Value.slice.injEq]at e;exact e.2.1
 have b:w.ownsRow B 3 1 (.slice (some ⟨g,0,none⟩) xs.length cap) xs.length (cellsZ xs):=h;have:=(b.stored i (.int .i64 x)).1;rw[Ol]at this;show World.ownsRow _ B 3 1 _ (xs.set i x).length _;rw[List.length_set];exact this
theorem OL:(Tryz.prog.info? 3).map (fun i=>(i.zero,i.size,i.bytes))=some (some (.int .i64 0),1,8):=by kernel_rfl
theorem Mf(w:World)(n:Nat)(e:n<=1048576)(xs:List Int)(b:xs=List.replicate n 0):
  Am (w.alloc (.cells (madeCells #[.int .i64 0] n) 3)) w.heap.size (.slice (some ⟨w.heap.size,0,none⟩) n n) xs:=by
 subst b;refine⟨by simp[cellsZ],.inr ⟨w.heap.size,n,madeCells #[.int .i64 0] n,by simp,Nat.le_refl _,heap_alloc_new w _,by simp,by unfold maxLen;omega,by simp[size_madeCells],?_⟩⟩;rw[toList_madeCells_one,List.take_of_length_le (by simp)];simp[cellsZ]
theorem Mg(n:Nat)(q:n<=1048576)(wx:World):(Instr.makeSlice 27 (.int .i64 (n:Int)) (.int .i64 (n:Int))).run Tryz.prog wx=.ok (.slice (some ⟨wx.heap.size,0,none⟩) n n) (wx.alloc (.cells (madeCells #[.int .i64 0] n) 3)):=by
 obtain⟨m,b,e,i,h⟩:=info_parts OL;have:=run_make (P:=Tryz.prog) wx 27 3 m (.int .i64 0) Tryz.underlying27 b e .i64 .i64 (n:Int) (n:Int) (by omega) (Int.le_refl _) (by rw[h];omega) (by omega);rw[i]at this;simpa [Value.cells]using this
def Df(fs:List Int)(k:Nat):List Int:=fs.take k++List.replicate (fs.length-k) 0
theorem ND(fs:List Int):Df fs 0=List.replicate fs.length 0:=by simp[Df]
theorem NQ(fs:List Int):Df fs fs.length=fs:=by simp[Df]
theorem LI(fs:List Int)(k:Nat)(b:k<=fs.length):(Df fs k).length=fs.length:=by simp[Df];omega
theorem NC(fs:List Int)(k:Nat)(b:k<fs.length):(Df fs k).set k (fs.getD k 0)=Df fs (k+1):=by
 unfold Df;have e:(fs.take k).length=k:=by simp;omega
 rw[List.set_append_right _ _ (by omega),e,Nat.sub_self,List.take_succ_eq_append_getElem b,List.append_assoc,show fs.length-k=(fs.length-(k+1))+1 by omega,List.replicate_succ,List.set_cons_zero];simp[List.getD_eq_getElem?_getD,List.getElem?_eq_getElem b]
theorem RK{ops:Array Oper}{rest:List Oper}{o:Oper}{act:Act}{Q:Exit->Act->World->Prop}(q:o.guard=none)(s x:Operand)
  (R:o.op=.call {callee:=.builtin .append,args:=#[s,x],argTypes:=#[27,27]}) (B:Nat) (v:Value) (xs:List Int) (y:Int)
  (T:act.eval s=v) (W:act.eval x=.slice (some ⟨w.heap.size,0,none⟩) 1 1) (h:Am w B v xs) (m:B<=w.heap.size) (Y:xs.length<=1048576)
  (I:∀H w',Am w' B H (xs++[y])->Below B w w'->wpList Tryz.prog ops Q rest (act.put o.dst H) w'):wpList Tryz.prog ops Q (o::rest) act (w.alloc (.cells #[.int .i64 y] 3)):=by
 obtain⟨X,O,r,z,A⟩:=info_parts OL;have i:Below w.heap.size w (w.alloc (.cells #[.int .i64 y] 3)):=(Below.refl _ _).alloc (Nat.le_refl _) _;have C:(w.alloc (.cells #[.int .i64 y] 3)).ownsRow B 3 1 v xs.length (cellsZ xs):=h.below i
 refine wpList_append_own _ q s x 27 R B 3 X (.int .i64 0) 1 8 Tryz.underlying27 O r z A rfl (by decide) v xs.length (cellsZ xs) T C ⟨w.heap.size,0,none⟩ 1 1 [.int .i64 y] W rfl (fun j u E=>?_)
  (fun u V=>by rw[List.mem_singleton.1 V];rfl) (by unfold maxLen;omega) (by omega) (Nat.le_trans m i.size) ?_
 ·match j with
  |0=>
   have J:(w.alloc (.cells #[.int .i64 y] 3)).cell? ⟨w.heap.size,0,none⟩=some (.int .i64 y):=by rw[World.cell?_alloc_at _ _ _ _ rfl];rfl
   simpa [Addr.add,J]using E
  |j+1=>simp at E
 ·intro v' w' b e _
  refine I v' w' ?_ ((i.mono m).grown e (Nat.le_trans m i.size) fun k P=>(C.lt k P).1);rw[show cellsZ xs++[.int .i64 y]=cellsZ (xs++[y]) by simp[cellsZ]]at b;show w'.ownsRow B 3 1 v' (xs++[y]).length (cellsZ (xs++[y]));rw[List.length_append];exact b
theorem U0(x:Int)(ts:Array TypeId)(t:TypeId)(w:World):(Builtin.max_ ts t #[.int .i64 0,.int .i64 x]).run Tryz.prog w=.ok (.int .i64 ((x.toNat:Nat):Int)) w:=by
 rw[run_max_int2];congr 2;split<;>omega
theorem pp(x:Nat)(ts:Array TypeId)(t:TypeId)(w:World):(Builtin.max_ ts t #[.int .i64 1,.int .i64 (x:Int)]).run Tryz.prog w=.ok (.int .i64 ((max 1 x:Nat):Int)) w:=by
 rw[run_max_int2];congr 2;split<;>omega
theorem JM(x y:Int)(ts:Array TypeId)(t:TypeId)(w:World):(Builtin.max_ ts t #[.int .i64 x,.int .i64 y]).run Tryz.prog w=.ok (.int .i64 (max x y)) w:=by
 rw[run_max_int2];congr 2;split<;>omega
theorem Iy(x y:Int)(ts:Array TypeId)(t:TypeId)(w:World):(Builtin.min_ ts t #[.int .i64 x,.int .i64 y]).run Tryz.prog w=.ok (.int .i64 (min x y)) w:=by
 rw[run_min_int2];congr 2;split<;>omega
theorem Own.at'{w:World}{B:Nat}{a:Option Addr}{n c:Nat}{xs:List Nat}(h:Own w B (.slice a n c) xs):n=xs.length/\RowAt w a xs.length xs:=by
 obtain⟨i,c1,e,b⟩:=h.row;simp only[Value.slice.injEq]at e;obtain⟨rfl,rfl,rfl⟩:=e;exact⟨rfl,b⟩
theorem Ar.at{w:World}{B:Nat}{v:Value}{ss:List ByteArray}(h:Ar w B v ss)(u:0<ss.length):
  ∃g cap,v=.slice (some ⟨g,0,none⟩) ss.length cap/\B<=g/\g<w.heap.size/\(∀i,i<ss.length->w.cell? ⟨g,i,none⟩=some (.string (ss.getD i ByteArray.empty)))/\∀i,w.frozen? ⟨g,i,none⟩=false:=by
 have b:w.ownsRow B 9 1 v ss.length (BM ss):=h;rcases h.2 with⟨rfl,y⟩|⟨g,cap,e,rfl,m,q,u,z,x,ht⟩
 ·omega
 ·refine⟨g,cap,rfl,m,(Array.getElem?_eq_some_iff.1 q).1,fun i r=>?_,fun i=>b.frozenAt i⟩
  rw[b.cellAt i (by omega),SC ss i r]
theorem Ar.stored{w:World}{B g cap n:Nat}{ss:List ByteArray}(h:Ar w B (.slice (some ⟨g,0,none⟩) n cap) ss)(i:Nat)(x:ByteArray):
  Ar (w.setCell ⟨g,i,none⟩ (.string x)) B (.slice (some ⟨g,0,none⟩) n cap) (ss.set i x):=by
 obtain rfl:n=ss.length:=by
  obtain⟨a,c,e,_⟩:=h.texts;simp only[Value.slice.injEq]at e;exact e.2.1
 have b:w.ownsRow B 9 1 (.slice (some ⟨g,0,none⟩) ss.length cap) ss.length (BM ss):=h;have:=(b.stored i (.string x)).1;rw[show(BM ss).set i (.string x)=BM (ss.set i x) by simp[BM,List.map_set]]at this;show World.ownsRow _ B 9 1 _ (ss.set i x).length _;rw[List.length_set];exact this
theorem KD(w:World)(n:Nat)(e:n<=1048576)(ss:List ByteArray)(b:ss=List.replicate n ByteArray.empty):
  Ar (w.alloc (.cells (madeCells #[.string ByteArray.empty] n) 9)) w.heap.size (.slice (some ⟨w.heap.size,0,none⟩) n n) ss:=by
 subst b;refine⟨by simp[BM],.inr ⟨w.heap.size,n,madeCells #[.string ByteArray.empty] n,by simp,Nat.le_refl _,heap_alloc_new w _,by simp,by unfold maxLen;omega,by simp[size_madeCells],?_⟩⟩;rw[toList_madeCells_one,List.take_of_length_le (by simp)];simp[BM]
theorem Ov(n:Nat)(q:n<=1048576)(wx:World):(Instr.makeSlice 66 (.int .i64 (n:Int)) (.int .i64 (n:Int))).run Tryz.prog wx=.ok (.slice (some ⟨wx.heap.size,0,none⟩) n n) (wx.alloc (.cells (madeCells #[.string ByteArray.empty] n) 9)):=by
 obtain⟨m,b,e,i,h⟩:=info_parts Mc;have:=run_make (P:=Tryz.prog) wx 66 9 m (.string ByteArray.empty) Tryz.underlying66 b e .i64 .i64 (n:Int) (n:Int) (by omega) (Int.le_refl _) (by rw[h];omega) (by omega);rw[i]at this;simpa [Value.cells]using this
variable {D:DataW Value}{bs:List ByteArray}{xs kn:List Nat}{p N sz B j:Nat}{S:Nat->Bool}{f:Nat->Nat×Nat}{vs:Nat->Value}{w w':World}
def CY:Value->Option (DataW Value×List MemPlace)
 | .slice a n c=>some (.held (.slice a n c),[])
 |_=>none
theorem LW{v:Value}{y:DataW Value×List MemPlace}(h:CY v=some y):∃a n c,v=.slice a n c/\y=(.held v,[]):=by
 cases v<;>simp[CY]at h;exact⟨_,_,_,rfl,h.symm⟩
theorem IQ:Maps.Keyed Tryz.prog 3:=Maps.int_keyed Tryz.underlying3
theorem O4(w:World):(zeroValue 40).run Tryz.prog w=.ok (.slice none 0 0) w:=by kernel_rfl
theorem cH(h:p<=9223372036854775807):(Lit.int .i64 (p:Int)).wf=true:=by
 exact WalkArith.wf_i64 (by omega)
theorem K8(h:p<=9223372036854775807):keyOf Tryz.prog 3 (.int .i64 (p:Int))=some (.int .i64 (p:Int)):=Maps.keyOf_int_mk Tryz.underlying3 (cH h)
theorem MU{q:Nat}(h:Lit.int .i64 (p:Int)=Lit.int .i64 (q:Int)):p=q:=by
 injection h with _ h;omega
theorem Ra(p:Nat):WideAt.IsKeyLit (.int .i64 (p:Int)):=trivial
theorem rF(p q:Nat):(Lit.int .i64 (p:Int)).sameKey (.int .i64 (q:Int))=decide (p=q):=by
 by_cases e:p=q
 ·subst e;rw[WideAt.sameKey_self (Ra p)];simp
 ·rw[Maps.sameKey_ne (fun h=>e (MU h)),decide_eq_false e]
def A7(D:DataW Value)(S:Nat->Bool)(vs:Nat->Value):Prop:=
 (∀b,Maps.has D b=true->∃p:Nat,S p=true/\b=.int .i64 (p:Int))/\∀p:Nat,S p=true->∀z,D.atKey (.int .i64 (p:Int)) z=.held (vs p)
theorem A7.has(h:A7 D S vs)(p:Nat):Maps.has D (.int .i64 (p:Int))=S p:=by
 cases b:S p
 ·cases i:Maps.has D (.int .i64 (p:Int))
  ·rfl
  ·obtain⟨q,m,e⟩:=h.1 _ i
   rw[MU e,m]at b;cases b
 ·exact Maps.has_true_of_atKey (h.2 p b)
theorem A7.empty(vs:Nat->Value):A7 (.map []) (fun _=>false) vs:=⟨fun b h=>by simp[Maps.has]at h,fun p h=>by cases h⟩
theorem A7.put(h:A7 D S vs)(r:Maps.IsMap D){p:Nat}(v:Value):
  A7 (D.put (.int .i64 (p:Int)) (.held v)) (fun q=>decide (q=p)||S q) (fun q=>if q=p then v else vs q):=by
 refine⟨fun m i=>?_,fun q b z=>?_⟩
 ·by_cases e:m=.int .i64 (p:Int)
  ·exact⟨p,by simp,e⟩
  ·rw[Maps.has_put_other e]at i
   obtain⟨q,b,rfl⟩:=h.1 m i;exact⟨q,by simp[b],rfl⟩
 ·by_cases e:q=p
  ·subst e
   rw[Maps.atKey_put_same r (Ra q)];simp
  ·rw[Maps.atKey_put_other (fun h=>e (MU h))]
   simp only[e,if_false];exact h.2 q (by simpa [e]using b) z
theorem A7.del(h:A7 D S vs)(p:Nat):A7 (D.del (.int .i64 (p:Int))) (fun q=>S q&& !decide (q=p)) vs:=by
 refine⟨fun m i=>?_,fun q b z=>?_⟩
 ·by_cases e:m=.int .i64 (p:Int)
  ·rw[e,Maps.has_del_same]at i;cases i
  ·rw[Maps.has_del_other e]at i
   obtain⟨q,b,rfl⟩:=h.1 m i;have:q≠p:=fun h=>e (by rw[h]);exact⟨q,by simp[b,this],rfl⟩
 ·rw[Bool.and_eq_true]at b
  have:q≠p:=by simpa using b.2
  rw[Maps.atKey_del_other (fun h=>this (MU h))];exact h.2 q b.1 z
theorem A7.congr{i:Nat->Bool}{b:Nat->Value}(h:A7 D S vs)(m:∀p,S p=i p)(r:∀p,S p=true->vs p=b p):A7 D i b:=by
 refine⟨fun u q=>?_,fun p hp z=>?_⟩
 ·obtain⟨p,hp,e⟩:=h.1 u q
  exact⟨p,by rw[<-m];exact hp,e⟩
 ·rw[<-m]at hp
  rw[<-r p hp];exact h.2 p hp z
section
variable {w:World} {ops:Array Oper} {rest:List Oper} {o:Oper} {act:Act} {Q:Exit->Act->World->Prop}
def Eo(sz:Nat)(f:Nat->Nat×Nat)(p:Nat):Value:=.slice (some ⟨(f p).1,0,none⟩) sz (f p).2
theorem dJ(Z:o.guard=none)(it:Operand)(H:o.op=Op.next it false)(bm r N sz:Nat)(D:DataW Value)(left:Lit->Bool)(cnt:Nat)(S:Nat->Bool)(f:Nat->Nat×Nat)(Y:A7 D S (Eo sz f))
  (C:act.eval it=.pointer (some ⟨r,0,none⟩)) (h:w.ranges Tryz.prog 3 CY bm r N D left cnt)
  (m:(∀X,left X=false)->wpList Tryz.prog ops Q rest (act.put o.dst (.tuple #[.bool false])) w)
  (q:∀(p O I:Nat) (w':World) (b:Nat),f p=(O,I)->S p=true->left (.int .i64 (p:Int))=true->w'.ranges Tryz.prog 3 CY bm r N D (fun z=>left z&& !z.sameKey (.int .i64 (p:Int))) b->b<cnt->
   w.grownBy w' (some r)->(Instr.entry (.pointer (some ⟨r,0,none⟩))).run Tryz.prog w'=.ok (.tuple #[.int .i64 (p:Int),.slice (some ⟨O,0,none⟩) sz I]) w'->wpList Tryz.prog ops Q rest (act.put o.dst (.tuple #[.bool true,.int .i64 (p:Int),.slice (some ⟨O,0,none⟩) sz I])) w'):
  wpList Tryz.prog ops Q (o::rest) act w:=by
 refine wpList_plain Z fun K' u=>?_;unfold Oper.wp;rcases h.next IQ o.type with⟨h0,hl,i⟩|⟨ac,v,X,y,w',b,E,T,hv,A,i,W,V,R,aa,P⟩
 ·simp[execOp,H,C,i,Result.andThen]
  exact u _ _ (m hl)
 ·obtain⟨p,hp,rfl⟩:=Y.1 X (Maps.has_true_of_atKey A)
  obtain⟨x,rfl,J,ab⟩:=Maps.keyOf_int_inv Tryz.underlying3 E;injection J with _ J;subst J;obtain⟨a,n,c,rfl,rfl⟩:=LW hv;have e:=A (.held (.slice none 0 0));rw[Y.2 p hp]at e;simp only[DataW.held.injEq,Eo,Value.slice.injEq]at e;obtain⟨rfl,rfl,rfl⟩:=e;simp[execOp,H,C,i,Result.andThen];exact u _ _ (q p (f p).1 (f p).2 w' b rfl hp T W V R P)
end
theorem XZ{bm:Nat}(h:w.ownsMap Tryz.prog 3 CY bm N D)(m:A7 D S (Eo sz f))(hp:S p=true)(i:p<=9223372036854775807):
  (Instr.lookup 394 (.map (some bm)) (.int .i64 (p:Int)) false).run Tryz.prog w=.ok (.slice (some ⟨(f p).1,0,none⟩) sz (f p).2) w:=by
 obtain⟨v,ps,b,q⟩:=h.lookup IQ Tryz.underlying394 (O4 w) (zd:=.held (.slice none 0 0)) (zp:=[]) rfl (K8 i);obtain⟨a,n,c,rfl,e⟩:=LW q;rw[m.2 p hp]at e;simp only[Prod.mk.injEq,DataW.held.injEq,Eo,Value.slice.injEq]at e;obtain⟨⟨rfl,rfl,rfl⟩,_⟩:=e;exact b
theorem iz{bm:Nat}(h:w.ownsMap Tryz.prog 3 CY bm N D)(m:A7 D S (Eo sz f))(hp:S p=true)(i:p<=9223372036854775807):
  (Instr.lookup 394 (.map (some bm)) (.int .i64 (p:Int)) true).run Tryz.prog w=.ok (.tuple #[.slice (some ⟨(f p).1,0,none⟩) sz (f p).2,.bool true]) w:=by
 obtain⟨v,ps,b,q⟩:=h.look_ok IQ Tryz.underlying394 (O4 w) (zd:=.held (.slice none 0 0)) (zp:=[]) rfl (K8 i);obtain⟨a,n,c,rfl,e⟩:=LW q;rw[m.2 p hp]at e;simp only[Prod.mk.injEq,DataW.held.injEq,Eo,Value.slice.injEq]at e;obtain⟨⟨rfl,rfl,rfl⟩,_⟩:=e;rw[m.has p,hp]at b;exact b
theorem iy{bm:Nat}(h:w.ownsMap Tryz.prog 3 CY bm N D)(m:A7 D S (Eo sz f))(hp:S p=false)(i:p<=9223372036854775807):
  ∃a n c,(Instr.lookup 394 (.map (some bm)) (.int .i64 (p:Int)) true).run Tryz.prog w=.ok (.tuple #[.slice a n c,.bool false]) w:=by
 obtain⟨v,ps,b,q⟩:=h.look_ok IQ Tryz.underlying394 (O4 w) (zd:=.held (.slice none 0 0)) (zp:=[]) rfl (K8 i);obtain⟨a,n,c,rfl,e⟩:=LW q;rw[m.has p,hp]at b;exact⟨a,n,c,b⟩
structure Lf(w:World)(B sz:Nat)(S:Nat->Bool)(f:Nat->Nat×Nat)(cs:Nat->List Nat):Prop where
 own:∀p,S p=true->Own w B (.slice (some ⟨(f p).1,0,none⟩) sz (f p).2) (cs p)/\(cs p).length=sz
 two:∀p q,S p=true->S q=true->p≠q->(f p).1≠(f q).1
theorem Lf.below{cs:Nat->List Nat}(h:Lf w B sz S f cs)(b:Below w.heap.size w w'):Lf w' B sz S f cs:=⟨fun p hp=>⟨(h.own p hp).1.below b,(h.own p hp).2⟩,h.two⟩
theorem Lf.kept{cs:Nat->List Nat}{g:Nat}(h:Lf w B sz S f cs)(b:w.grownBy w' (some g))(i:∀p,S p=true->(f p).1≠g):Lf w' B sz S f cs:=
 ⟨fun p hp=>⟨(h.own p hp).1.kept b (.inr fun e=>i p hp (by simpa [Value.ownBlock]using e)),(h.own p hp).2⟩,h.two⟩
theorem KJ{g n c bm:Nat}(h:Own w B (.slice (some ⟨g,0,none⟩) n c) xs)(u:w.ownsMap Tryz.prog 3 CY bm N D):g≠bm:=by
 rcases h.2.2 with⟨e,_⟩|⟨g',cap,q,e,_,r,_⟩
 ·cases e
 ·simp only[Value.slice.injEq,Option.some.injEq,Addr.mk.injEq,and_true]at e
  obtain⟨x,b,m,_⟩:=u;intro i;rw[<-i,e.1,r]at m;cases m
theorem N6{g n c bm r cnt:Nat}{left:Lit->Bool}(h:Own w B (.slice (some ⟨g,0,none⟩) n c) xs)(y:w.ranges Tryz.prog 3 CY bm r N D left cnt):g≠r:=by
 rcases h.2.2 with⟨e,_⟩|⟨g',cap,u,e,_,x,_⟩
 ·cases e
 ·simp only[Value.slice.injEq,Option.some.injEq,Addr.mk.injEq,and_true]at e
  obtain⟨z,b,m,seen,c0,_,_,_,_,q,_⟩:=y;intro i;rw[<-i,e.1,x]at q;cases q
structure PV where
 g:Nat
 a:Option Addr
 n:Nat
 c:Nat
 kg:Nat
 kc:Nat
 bg:Nat
 bc:Nat
 bm:Nat
structure A2(w:World)(B:Nat)(v:PV)(kn:List Nat)(bs:List ByteArray):Prop where
 box:w.heap[v.g]? =some (.cells #[.slice v.a v.n v.c,.slice (some ⟨v.kg,0,none⟩) kn.length v.kc,.slice (some ⟨v.bg,0,none⟩) bs.length v.bc,.map (some v.bm)] 396 (0,0))
 known:Own w B (.slice (some ⟨v.kg,0,none⟩) kn.length v.kc) kn
 blocks:Ar w B (.slice (some ⟨v.bg,0,none⟩) bs.length v.bc) bs
theorem A2.cells{v:PV}(h:A2 w B v kn bs):
  w.cell? ⟨v.g,0,none⟩=some (.slice v.a v.n v.c)/\w.cell? ⟨v.g,1,none⟩=some (.slice (some ⟨v.kg,0,none⟩) kn.length v.kc)/\w.cell? ⟨v.g,2,none⟩=some (.slice (some ⟨v.bg,0,none⟩) bs.length v.bc)/\w.cell? ⟨v.g,3,none⟩=some (.map (some v.bm)):=by
 have:=h.box;refine⟨?_,?_,?_,?_⟩<;>simp[World.cell?,this]
theorem A2.lt{v:PV}(h:A2 w B v kn bs):v.g<w.heap.size:=(Array.getElem?_eq_some_iff.1 h.box).1
theorem A2.below{v:PV}(h:A2 w B v kn bs)(b:Below w.heap.size w w'):A2 w' B v kn bs:=⟨(b.block v.g h.lt).trans h.box,h.known.below b,h.blocks.below b⟩
theorem Ar.blk{g n c:Nat}{ss:List ByteArray}(h:Ar w B (.slice (some ⟨g,0,none⟩) n c) ss):∃b,w.heap[g]? =some (.cells b 9 (0,0)):=by
 rcases h.2 with⟨e,_⟩|⟨g',cap,b,e,_,i,_⟩
 ·cases e
 ·simp only[Value.slice.injEq,Option.some.injEq,Addr.mk.injEq,and_true]at e
  exact⟨b,by rw[e.1];exact i⟩
theorem Own.blk{g n c:Nat}(h:Own w B (.slice (some ⟨g,0,none⟩) n c) xs):∃b,w.heap[g]? =some (.cells b 265 (0,0)):=by
 rcases h.2.2 with⟨e,_⟩|⟨g',cap,b,e,_,i,_⟩
 ·cases e
 ·simp only[Value.slice.injEq,Option.some.injEq,Addr.mk.injEq,and_true]at e
  exact⟨b,by rw[e.1];exact i⟩
theorem A2.kept{v:PV}(h:A2 w B v kn bs)(b:w.grownBy w' (some j))(i:v.g≠j)(m:v.kg≠j)(q:v.bg≠j):A2 w' B v kn bs:=
 ⟨(b.block v.g h.lt (by simpa using i)).trans h.box,h.known.kept b (.inr fun e=>m (by simpa [Value.ownBlock]using e)),World.ownsRow.kept h.blocks b (.inr fun e=>q (by simpa [Value.ownBlock]using e))⟩
theorem A2.row{B' n c:Nat}{v:PV}(h:A2 w B v kn bs)(u:w.grownBy w' (some j))(x:Own w B' (.slice (some ⟨j,0,none⟩) n c) xs)(r:v.kg≠j):A2 w' B v kn bs:=by
 obtain⟨q,m⟩:=x.blk;obtain⟨i,b⟩:=h.blocks.blk;refine h.kept u (fun e=>?_) r (fun e=>?_)
 ·have:=h.box
  rw[e,m]at this;simp only[Option.some.injEq,Obj.cells.injEq]at this;exact absurd this.2.1 (by decide)
 ·rw[e,m]at b
  simp only[Option.some.injEq,Obj.cells.injEq]at b;exact absurd b.2.1 (by decide)
theorem A2.nocells{v:PV}(h:A2 w B v kn bs)(x:w.grownBy w' (some j))(q:∀b t m,w.heap[j]? ≠some (.cells b t m)):A2 w' B v kn bs:=by
 obtain⟨b,u⟩:=h.known.blk;obtain⟨r,i⟩:=h.blocks.blk;exact h.kept x (fun e=>q _ _ _ (by rw[<-e];exact h.box)) (fun e=>q _ _ _ (by rw[<-e];exact u)) (fun e=>q _ _ _ (by rw[<-e];exact i))
variable {D:DataW Value}{k:Int}{rs:List RV}{K n c:Nat}{f:Nat->Nat×Nat}{a:Option Addr}{w wr:World}
theorem Qp(w:World)(n:Nat)(b:n<=1048576):
  Own (w.alloc (.cells (madeCells #[.int .u64 0] n) 265)) w.heap.size (.slice (some ⟨w.heap.size,0,none⟩) n n) (List.replicate n 0):=by
 refine⟨NZ n,by simp[cellsU],.inr ⟨w.heap.size,n,madeCells #[.int .u64 0] n,by simp,Nat.le_refl _,heap_alloc_new w _,by simp,by unfold maxLen;omega,by simp[size_madeCells],?_⟩⟩;rw[toList_madeCells_one,List.take_of_length_le (by simp)];simp[cellsU]
theorem Z7(n:Nat)(q:n<=1048576)(wx:World):(Instr.makeSlice 40 (.int .i64 (n:Int)) (.int .i64 (n:Int))).run Tryz.prog wx=.ok (.slice (some ⟨wx.heap.size,0,none⟩) n n) (wx.alloc (.cells (madeCells #[.int .u64 0] n) 265)):=by
 obtain⟨m,b,e,i,h⟩:=info_parts KV;have:=run_make (P:=Tryz.prog) wx 40 265 m (.int .u64 0) Tryz.underlying40 b e .i64 .i64 (n:Int) (n:Int) (by omega) (Int.le_refl _) (by rw[h];omega) (by omega);rw[i]at this;simpa [Value.cells]using this
def PS(w:World)(B:Nat)(v:PV)(sz:Nat)(S:Nat->Bool)(f:Nat->Nat×Nat)(cs:Nat->List Nat)(kn:List Nat)(bs:List ByteArray):Prop:=
 A2 w B v kn bs/\(∃D,w.ownsMap Tryz.prog 3 CY v.bm v.n D/\A7 D S (Eo sz f))/\Lf w B sz S f cs/\(∀p,S p=true->p<v.n/\(f p).1≠v.kg)/\B<=v.bm
theorem PS.below{w':World}{B:Nat}{v:PV}{sz:Nat}{S:Nat->Bool}{cs:Nat->List Nat}{kn:List Nat}{bs:List ByteArray}(h:PS w B v sz S f cs kn bs)(b:Below w.heap.size w w'):PS w' B v sz S f cs kn bs:=by
 obtain⟨e,⟨D,i,m⟩,q,r,u⟩:=h;exact⟨e.below b,⟨D,i.kept (CN b none) (by simp),m⟩,q.below b,r,u⟩
def CF(k:Int)(rs:List RV)(m p:Nat):Bool:=decide (p<m)&&AV k (rs.getD p .dflt).xs
def Ep(w wr:World)(k:Int)(rs:List RV)(m:Nat)(f:Nat->Nat×Nat)(D:DataW Value):Prop:=
 wr.ownsMap Tryz.prog 3 CY w.heap.size m D/\A7 D (CF k rs m) (Eo (sizeOfK k) f)/\Lf wr w.heap.size (sizeOfK k) (CF k rs m) f (fun p=>(rs.getD p .dflt).xs)/\Below w.heap.size w wr
theorem Ep.no{w2:World}{m:Nat}(h:Ep w wr k rs m f D)(b:Below wr.heap.size wr w2)(y:AV k (rs.getD m .dflt).xs=false):Ep w w2 k rs (m+1) f D:=by
 obtain⟨u,i,q,x⟩:=h
 have e:∀p,CF k rs m p=CF k rs (m+1) p:=fun p=>by
  unfold CF;by_cases hp:p=m
  ·subst hp;rw[y];simp
  ·have:(p<m+1)=(p<m):=propext (by omega)
   simp only[this]
 have r:CF k rs m=CF k rs (m+1):=funext e;rw[r]at i q;exact⟨(u.kept (CN b none) (by simp)).mono (Nat.le_succ _),i,q.below b,Ad x b⟩
theorem Ep.yes{w2 w3:World}{m:Nat}{g2 c2:Nat}(h:Ep w wr k rs m f D)(y:Below wr.heap.size wr w2)(O:AV k (rs.getD m .dflt).xs=true)
  (I:Own w2 wr.heap.size (.slice (some ⟨g2,0,none⟩) (sizeOfK k) c2) (rs.getD m .dflt).xs) (W:w3.ownsMap Tryz.prog 3 CY w.heap.size (m+1) (D.put (.int .i64 (m:Int)) (.held (.slice (some ⟨g2,0,none⟩) (sizeOfK k) c2)))) (H:w2.grownBy w3 (some w.heap.size)):
  Ep w w3 k rs (m+1) (fun q=>if q=m then(g2,c2)else f q) (D.put (.int .i64 (m:Int)) (.held (.slice (some ⟨g2,0,none⟩) (sizeOfK k) c2))):=by
 obtain⟨C,P,x,E⟩:=h
 have e:∀p,(decide (p=m)||CF k rs m p)=CF k rs (m+1) p:=fun p=>by
  unfold CF;by_cases hp:p=m
  ·subst hp;rw[O];simp
  ·have:(p<m+1)=(p<m):=propext (by omega)
   simp only[this,hp,decide_false,Bool.false_or]
 have V:=C.lt;have u:∀p,CF k rs m p=true->(f p).1<wr.heap.size:=fun p hp=>((x.own p hp).1.lt (k:=(f p).1) rfl).2;have R:=I.lt (k:=g2) rfl;have z:w2.ownsMap Tryz.prog 3 CY w.heap.size m D:=C.kept (CN y none) (by simp);refine⟨W,(P.put C.isMap (p:=m) _).congr e (fun p hp=>?_),⟨fun p hp=>?_,fun p q hp J A=>?_⟩,?_⟩
 ·by_cases b:p=m
  ·subst b;simp[Eo]
  ·simp[Eo,b]
 ·rw[<-e]at hp
  by_cases b:p=m
  ·subst b
   simp only[if_true];refine⟨(I.mono (by have:=E.size;omega)).kept H (.inr fun e=>?_),(Gg O).2.1⟩;exact KJ I z (by simpa [Value.ownBlock]using e)
  ·have r:CF k rs m p=true:=by simpa [b]using hp
   simp only[b,if_false];refine⟨((x.own p r).1.below y).kept H (.inr fun e=>?_),(x.own p r).2⟩;exact KJ ((x.own p r).1.below y) z (by simpa [Value.ownBlock]using e)
 ·rw[<-e]at hp J
  by_cases b:p=m
  ·by_cases i:q=m
   ·exact absurd (b.trans i.symm) A
   ·have:=u q (by simpa [i]using J)
    simp only[b,i,if_true,if_false];omega
  ·have r:CF k rs m p=true:=by simpa [b]using hp
   have:=u p r;by_cases i:q=m
   ·simp only[b,i,if_true,if_false]
    omega
   ·simp only[b,i,if_false]
    exact x.two p q r (by simpa [i]using J) A
 ·exact(Ad E y).trans (CK H (Nat.le_trans E.size y.size) fun j T=>by cases T;exact Nat.le_refl _)
theorem Ep.done{w1 w3:World}{kg bg g:Nat}(h:Ep w wr k rs n f D)(q:Below wr.heap.size wr w1)(x:Below w1.heap.size w1 w3)
  (r:Own w3 wr.heap.size (.slice (some ⟨kg,0,none⟩) (sizeOfK k) (sizeOfK k)) (List.replicate (sizeOfK k) 0)) (i:Ar w3 wr.heap.size (.slice (some ⟨bg,0,none⟩) K K) (List.replicate K ByteArray.empty))
  (y:w3.heap[g]? =some (.cells #[.slice a n c,.slice (some ⟨kg,0,none⟩) (sizeOfK k) (sizeOfK k),.slice (some ⟨bg,0,none⟩) K K,.map (some w.heap.size)] 396 (0,0))):
  PS w3 w.heap.size ⟨g,a,n,c,kg,sizeOfK k,bg,K,w.heap.size⟩ (sizeOfK k) (CF k rs n) f (fun p=>(rs.getD p .dflt).xs) (List.replicate (sizeOfK k) 0) (List.replicate K ByteArray.empty)/\Below w.heap.size w w3:=by
 obtain⟨z,A,u,m⟩:=h;have b:=Ad q x;refine⟨⟨⟨by simpa using y,by simpa using r.mono m.size,by simpa using i.mono m.size⟩,⟨D,z.kept (CN b none) (by simp),A⟩,u.below b,fun p hp=>⟨?_,fun e=>?_⟩,Nat.le_refl _⟩,Ad m b⟩
 ·have:(decide (p<n)&&AV k (rs.getD p .dflt).xs)=true:=hp
  simp only[Bool.and_eq_true,decide_eq_true_eq]at this;exact this.1
 ·have q:=((u.own p hp).1.lt (k:=(f p).1) rfl).2
  have C:=(r.lt (k:=kg) rfl).1;simp only at e;omega
theorem Fr(w:World)(o:Obj):Below w.heap.size w (w.alloc o):=(Below.refl _ _).alloc (Nat.le_refl _) _
theorem Ep.endA(h:Ep w wr k rs n f D)(b:K<=128):
  PS (((wr.drew.alloc (.cells (madeCells #[.int .u64 0] (sizeOfK k)) 265)).alloc (.cells (madeCells #[.string ByteArray.empty] K) 9)).alloc (.cells #[.slice a n c,.slice (some ⟨wr.heap.size,0,none⟩) (sizeOfK k) (sizeOfK k),.slice (some ⟨wr.heap.size+1,0,none⟩) K K,.map (some w.heap.size)] 396)) w.heap.size
   ⟨wr.heap.size+1+1,a,n,c,wr.heap.size,sizeOfK k,wr.heap.size+1,K,w.heap.size⟩ (sizeOfK k) (CF k rs n) f (fun p=>(rs.getD p .dflt).xs) (List.replicate (sizeOfK k) 0) (List.replicate K ByteArray.empty)/\
  Below w.heap.size w (((wr.drew.alloc (.cells (madeCells #[.int .u64 0] (sizeOfK k)) 265)).alloc (.cells (madeCells #[.string ByteArray.empty] K) 9)).alloc (.cells #[.slice a n c,.slice (some ⟨wr.heap.size,0,none⟩) (sizeOfK k) (sizeOfK k),.slice (some ⟨wr.heap.size+1,0,none⟩) K K,.map (some w.heap.size)] 396)):=by
 have e:=D6 k;have o1:=Qp wr.drew (sizeOfK k) (by omega);have o2:=KD (wr.drew.alloc (.cells (madeCells #[.int .u64 0] (sizeOfK k)) 265)) K (by omega) _ rfl;rw[Bc]at o2;refine h.done (w1:=wr.drew) ((Below.refl _ _).drew) ?_ ?_ ?_ ?_
 ·exact Ad (Ad (Fr _ _) (Fr _ _)) (Fr _ _)
 ·exact(o1.below (Fr _ _)).below (Fr _ _)
 ·exact(o2.below (Fr _ _)).mono (by show wr.heap.size<=wr.heap.size+1;omega)
 ·have:=heap_alloc_new ((wr.drew.alloc (.cells (madeCells #[.int .u64 0] (sizeOfK k)) 265)).alloc (.cells (madeCells #[.string ByteArray.empty] K) 9)) (.cells #[.slice a n c,.slice (some ⟨wr.heap.size,0,none⟩) (sizeOfK k) (sizeOfK k),.slice (some ⟨wr.heap.size+1,0,none⟩) K K,.map (some w.heap.size)] 396)
  rw[Bc,Bc]at this;exact this
theorem Ep.endB(h:Ep w wr k rs n f D)(b:K<=128):
  PS (((wr.drew.alloc (.cells (madeCells #[.string ByteArray.empty] K) 9)).alloc (.cells (madeCells #[.int .u64 0] (sizeOfK k)) 265)).alloc (.cells #[.slice a n c,.slice (some ⟨wr.heap.size+1,0,none⟩) (sizeOfK k) (sizeOfK k),.slice (some ⟨wr.heap.size,0,none⟩) K K,.map (some w.heap.size)] 396)) w.heap.size
   ⟨wr.heap.size+1+1,a,n,c,wr.heap.size+1,sizeOfK k,wr.heap.size,K,w.heap.size⟩ (sizeOfK k) (CF k rs n) f (fun p=>(rs.getD p .dflt).xs) (List.replicate (sizeOfK k) 0) (List.replicate K ByteArray.empty)/\
  Below w.heap.size w (((wr.drew.alloc (.cells (madeCells #[.string ByteArray.empty] K) 9)).alloc (.cells (madeCells #[.int .u64 0] (sizeOfK k)) 265)).alloc (.cells #[.slice a n c,.slice (some ⟨wr.heap.size+1,0,none⟩) (sizeOfK k) (sizeOfK k),.slice (some ⟨wr.heap.size,0,none⟩) K K,.map (some w.heap.size)] 396)):=by
 have e:=D6 k;have o1:=KD wr.drew K (by omega) _ rfl;have o2:=Qp (wr.drew.alloc (.cells (madeCells #[.string ByteArray.empty] K) 9)) (sizeOfK k) (by omega);rw[Bc]at o2;refine h.done (w1:=wr.drew) ((Below.refl _ _).drew) ?_ ?_ ?_ ?_
 ·exact Ad (Ad (Fr _ _) (Fr _ _)) (Fr _ _)
 ·exact(o2.below (Fr _ _)).mono (by show wr.heap.size<=wr.heap.size+1;omega)
 ·exact(o1.below (Fr _ _)).below (Fr _ _)
 ·have:=heap_alloc_new ((wr.drew.alloc (.cells (madeCells #[.string ByteArray.empty] K) 9)).alloc (.cells (madeCells #[.int .u64 0] (sizeOfK k)) 265)) (.cells #[.slice a n c,.slice (some ⟨wr.heap.size+1,0,none⟩) (sizeOfK k) (sizeOfK k),.slice (some ⟨wr.heap.size,0,none⟩) K K,.map (some w.heap.size)] 396)
  rw[Bc,Bc]at this;exact this
theorem jQ(K:Nat)(a:Option Addr)(n c:Nat)(rs:List RV)(w:World)(ag:0<sizeOfK (K:Int))(h:Aj w a n rs)(hs:Af rs)(hn:n<=1048576):
  Calls Tryz.prog 278 #[.int .i64 (K:Int),.slice a n c] w fun e w'=> ∃g kg bg f,e=.returned (.pointer (some ⟨g,0,none⟩))/\
   PS w' w.heap.size ⟨g,a,n,c,kg,sizeOfK (K:Int),bg,K,w.heap.size⟩ (sizeOfK (K:Int)) (CF (K:Int) rs n) f (fun p=>(rs.getD p .dflt).xs) (List.replicate (sizeOfK (K:Int)) 0) (List.replicate K ByteArray.empty)/\Below w.heap.size w w':=by
 obtain rfl:=h.1;have J:=D8 ag;have hK:K<=128:=by omega
 have a3:=D6 (K:Int);have az:= @run_makeMap Tryz.prog;have Hh:=Ab h;have Hs:=Ab hs;have HZ:=Ab (Hn (K:Int));have Y:=Ab (Z7 (sizeOfK (K:Int)) (by omega));have X:=Ab (Ov K (by omega));have aw:=Ab (fun wx=>Qp wx (sizeOfK (K:Int)) (by omega));have av:=Ab (fun wx=>KD wx K (by omega) _ rfl);have T:Hid (Ep w (w.alloc (.map #[] 0)) (K:Int) rs 0 (fun _=>(0,0)) (.map [])):=Ab ⟨World.ownsMap_made _ _ _ _,(A7.empty (Eo 0 fun _=>(0,0))).congr (fun p=>by simp[CF]) (fun p hp=>by cases hp),⟨fun p hp=>by simp[CF]at hp,fun p q hp=>by simp[CF]at hp⟩,(Below.refl _ _).alloc (Nat.le_refl _) _⟩;clear h hs ag J;have Z:Hid (∀xs,AV (K:Int) xs=true->xs.length=sizeOfK (K:Int)):=Ab fun xs hx=>(Gg hx).2.1;go_enter Tryz.func278,Tryz.ntmps278;go_wp2;go_loopw [11] (fun i wr=> ∃k:Nat,∃f:Nat->Nat×Nat,∃D:DataW Value,k<=rs.length/\i=.int .i64 k/\Hid (Ep w wr (K:Int) rs k f D)) (fun i _=>rs.length-(intOf i).toNat)
 case atStart=>exact⟨0,_,_,Nat.zero_le _,rfl,T⟩
 case round=>
  obtain⟨k,f,D,hk,rfl,HB⟩:=hrel;clear T;by_cases E:k<rs.length
  ·have hB:=Aa HB
   have hR:=(Aa Hh).below hB.2.2.2;obtain⟨b,off,rfl,ac⟩:=hR.at E;obtain⟨ax,ay⟩:=ac k E;have y:=hR.2.1 k E;have au:(k:Int)<(rs.length:Int):=by omega
   have a2:=(Aa Hs) k;have z:=Ab (fun w2 u x=>hB.no (w2:=w2) u x);have A:=Ab (fun(w2 w3:World) (g2 c2:Nat) u x ho hm hg=>hB.yes (w2:=w2) (w3:=w3) (g2:=g2) (c2:=c2) u x ho hm hg);generalize rs.getD k .dflt=r at*;have C:Below wr.heap.size wr (wr.alloc (.cells #[.slice r.a r.n r.c,.string r.s] 73)):=(Below.refl _ _).alloc (Nat.le_refl _) _;have I:=y.below C;have HV:=Ab (L7 r.a r.n r.c r.xs (K:Int) _ I);have ab:=GT wr (.slice r.a r.n r.c) (.string r.s);have V:=Ab (fun w2 (u:Below (wr.alloc (.cells #[.slice r.a r.n r.c,.string r.s] 73)).heap.size (wr.alloc (.cells #[.slice r.a r.n r.c,.string r.s] 73)) w2)=>(ab.below u).1);have W:=Ab (fun w2 (u:Below (wr.alloc (.cells #[.slice r.a r.n r.c,.string r.s] 73)).heap.size (wr.alloc (.cells #[.slice r.a r.n r.c,.string r.s] 73)) w2)=>He r.a r.n r.c r.xs w2 (I.below u) (by omega));have P:=Ab C;have al:=Ab hB.1;clear hB hR ac y I C ab;cases x:AV (K:Int) r.xs
   ·have am:=Ab (fun w2 u=>Aa z w2 u x)
    clear z A V W;go_wp2_with (go_at_call 179;refine(Aa HV).mono ?_;rintro e w2 ⟨he,m⟩;obtain rfl:=Nx he;rw[x];have ai:=Ab m;clear m he);go_roundw
    case rel=>exact⟨k+1,f,D,by omega,by go_num,Ab (Aa am w2 (Ad (Aa P) (Aa ai)))⟩
    case measure=>simp[intOf];omega
   ·have hl:=Ab (Aa Z r.xs x)
    have af:Hid (0<r.xs.length):=Ab (Hc.1 x).1;have ao:=Ab (fun(w3 w4:World) (g2 c2:Nat) (u:Below wr.heap.size wr w3) ho hm hg=>Aa A w3 w4 g2 c2 u x ho hm hg);clear z A HB;go_wp2_with (first|(go_at_call 179;refine(Aa HV).mono ?_;rintro e w2 ⟨he,m⟩;obtain rfl:=Nx he;rw[x];have hx:=Aa V w2 m;have HC:=Ab (Aa W w2 m);have O:=Ab (Ad (Aa P) m);clear m he)|(go_at_call 253;refine(Aa HC).mono ?_;rintro e w3 ⟨v3,rfl,H,aa⟩;obtain⟨g3,c3,ah,ap,aq,_,_⟩:=H.at (Aa af);rw[Aa hl]at ah;subst ah;have an:=Ab H;have R:=Ab (Ad (Aa O) aa);clear H aa ap aq)|(at_mapUpdate;refine wpList_mapUpdate_own _ rfl (.tmp 20) (.tmp 21) (.tmp 24) 394 rfl 3 40 IQ Tryz.underlying394 CY w.heap.size k D rfl ((Aa al).kept (CN (Aa R) none) (by simp)) (by unfold maxLen;omega) (.int .i64 (k:Int)) (.slice (some ⟨g3,0,none⟩) (sizeOfK (K:Int)) c3) (.int .i64 (k:Int)) rfl rfl (K8 (by omega)) (.held (.slice (some ⟨g3,0,none⟩) (sizeOfK (K:Int)) c3)) [] rfl ?_;intro w4 ae ad;have ak:=Ab ae;have aj:=Ab ad;clear ae ad));go_roundw
    case rel=>exact⟨k+1,_,_,by omega,by go_num,Ab (Aa ao w3 w4 g3 c3 (Aa R) ((Aa an).mono (Aa O).size) (Aa ak) (Aa aj))⟩
    case measure=>simp[intOf];omega
  ·have ar:k=rs.length:=by omega
   subst ar;have a1:=Aa Y;have a0:=Aa X;clear Y X Hh Hs Z;go_wp2_with fail;go_region_held (fun _=>True) (go_keep) (first|(go_at_call 176;refine(Aa HZ _).mono ?_;rintro e w' ⟨rfl,rfl⟩))
   all_goals go_wp2
   all_goals go_ret
   all_goals first|exact⟨_,_,_,f,rfl,(Aa HB).endA hK⟩|exact⟨_,_,_,f,rfl,(Aa HB).endB hK⟩
end Go.Proofs.YtfpmnekaockodaaGreatDoor
