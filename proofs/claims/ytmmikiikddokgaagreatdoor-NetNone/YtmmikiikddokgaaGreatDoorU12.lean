/-
  Laws that the proof stands on.
-/
import Derived.Test.YtmmikiikddokgaaGreatDoorU11
namespace Go.Proofs.YtmmikiikddokgaaGreatDoor
open Go.RowKit Go.Sort
set_option linter.unusedVariables false
set_option linter.unusedSimpArgs false
set_option maxRecDepth 4000
set_option maxHeartbeats 8000000
variable {ov:Bool}{k z t:Int}{V:List (List Nat)}{rs:List RV}{cs:List Value}{g B gs m i b:Nat}{T:TypeId}{w w':World}
def BkA(T:TypeId)(w:World)(g:Nat)(cs:List Value):Prop:=w.heap[g]? =some (.cells cs.toArray T (0,0))
theorem AO(T:TypeId)(w:World)(cs:List Value):BkA T (w.alloc (.cells cs.toArray T)) w.heap.size cs:=by
 show(w.heap.push _)[w.heap.size]? =_;simp
theorem BkA.lt(h:BkA T w g cs):g<w.heap.size:=(Array.getElem?_eq_some_iff.1 h).1
theorem BkA.belowB(h:BkA T w g cs)(a:Below B w w')(c:g<B):BkA T w' g cs:=(a.block g c).trans h
theorem BkA.below(h:BkA T w g cs)(a:Below w.heap.size w w'):BkA T w' g cs:=h.belowB a h.lt
theorem BkA.at(h:BkA T w g cs)(i:Nat){v:Value}(a:cs[i]? =some v):w.cell? ⟨g,i,none⟩=some v:=by
 unfold BkA at h;rw[cell_of_row w g _ _ _ _ h];simpa using a
theorem BkA.frz(h:BkA T w g cs)(i:Nat):w.frozen? ⟨g,i,none⟩=false:=by
 unfold BkA at h;simp[World.frozen?,h]
theorem BkA.set(h:BkA T w g cs)(i:Nat)(v:Value):BkA T (w.setCell ⟨g,i,none⟩ v) g (cs.set i v):=by
 have:=heap_setCell_same w g i _ _ v h;rw[List.setIfInBounds_toArray]at this;exact this
theorem BkA.kept{row:Option Nat}(h:BkA T w g cs)(c:w.grownBy w' row)(a:some g≠row):BkA T w' g cs:=(c.block g h.lt a).trans h
theorem BkA.tu{F:Nat->Prop}(h:BkA T w g cs)(ht:Tu F w w')(a:¬F g):BkA T w' g cs:=(ht.block g h.lt a).trans h
theorem BkA.ne{d:TypeId}{g':Nat}{a:Array Value}{f:Nat×Nat}(h:BkA T w g cs)(c:w.heap[g']? =some (.cells a d f))(j:T≠d):g≠g':=fun e=>by
 subst e;unfold BkA at h;rw[h]at c;simp only[Option.some.injEq,Obj.cells.injEq]at c;exact j c.2.1
theorem BkA.neS{v:Value}(h:BkA T w g cs)(f:Ak w B v rs)(c:T≠73):v.ownBlock≠some g:=fun e=>by
 obtain⟨a,d⟩:=f.blk5 e;exact h.ne d c rfl
theorem BkA.neSt{v:Value}(h:BkA T w g cs)(c:Av w gs B k z m v rs ov)(a:T≠225):g≠gs:=h.ne c.blk a
theorem BkA.outSt{v:Value}(h:BkA T w g cs)(c:Av w gs B k z m v rs ov)(e:T≠225)(d:T≠73):¬C0 gs v g:=fun a=>by
 rcases a with a|a
 ·exact h.neSt c e a
 ·exact h.neS c.own d a
theorem Be(w:World)(g i:Nat)(u:Value):Tu (fun j=>j=g) w (w.setCell ⟨g,i,none⟩ u):=Tu.of_gb (BA _ _ _ _) fun j _ e=>(Option.some.inj e).symm
theorem Av.sets{v:Value}(a:Av w gs B k z m v rs ov)(h:BkA T w g cs)(ht:Tu (fun j=>j=g) w w')(c:T≠225)(f:T≠73)(l:T≠265):Av w' gs B k z m v rs ov:=
 ⟨a.blk.tu ht (fun e=>h.neSt a c e.symm),a.lo,a.own.tu ht (fun j p e=>h.outSt a c f (e▸ .inr p)),a.rows.tu ht (fun j d o e=>h.ne o l e.symm),a.le,a.most,a.short⟩
theorem BkA.setAll{us:List Value}(h:BkA T w g cs)(l:us.length=cs.length):BkA T (w.setCells g 0 us) g us:=by
 obtain⟨a,d,e,f⟩:=Gz g T us 0 w cs.toArray h;unfold BkA;rw[d];have:a=us.toArray:=by
  apply Array.ext_getElem?;intro j;by_cases c:j<cs.length
  ·rw[f j (by simpa using c),if_pos (by omega)];simp
  ·rw[Array.getElem?_eq_none (by rw[e];simpa using c),Array.getElem?_eq_none (by simp;omega)]
 rw[this]
def DO(d:Nat)(t:Int):Int:=if (d:Int)<t then t-d else d-t
theorem OC(d:Nat)(t:Int):0<=DO d t:=by unfold DO;split<;>omega
def FT(V:List (List Nat))(v:List Nat)(i:Nat):Nat:=cnt (xorL v (V.getD i []))
def Gj(V:List (List Nat))(ch:List Bool)(v:List Nat)(t:Int)(i:Nat)(z:Int):Prop:=ch.getD i false=false/\0<FT V v i/\DO (FT V v i) t<z
def Ya(V:List (List Nat))(ch:List Bool)(v:List Nat)(t:Int)(i:Nat)(z:Int):Decidable (Gj V ch v t i z):=
 inferInstanceAs (Decidable (ch.getD i false=false/\0<FT V v i/\DO (FT V v i) t<z))
def BJ(V:List (List Nat))(ch:List Bool)(v:List Nat)(t:Int):Nat->Option Nat×Int
 |0=>(none,DO (cnt v) t)
 |i+1=> @ite _ (Gj V ch v t i (BJ V ch v t i).2) (Ya V ch v t i (BJ V ch v t i).2) (some i,DO (FT V v i) t) (BJ V ch v t i)
theorem N3{ch:List Bool}{v:List Nat}(h:Gj V ch v t i (BJ V ch v t i).2):BJ V ch v t (i+1)=(some i,DO (FT V v i) t):=by
 exact if_pos h
theorem Ov{ch:List Bool}{v:List Nat}(h:¬Gj V ch v t i (BJ V ch v t i).2):BJ V ch v t (i+1)=BJ V ch v t i:=by
 exact if_neg h
theorem Tx(V:List (List Nat))(ch:List Bool)(v:List Nat)(t:Int):∀n,(BJ V ch v t n).2<=DO (cnt v) t/\(∀j,j<n->¬Gj V ch v t j (BJ V ch v t n).2)/\
  match (BJ V ch v t n).1 with
  |none=>(BJ V ch v t n).2=DO (cnt v) t
  |some b=>b<n/\Gj V ch v t b (DO (cnt v) t)/\(BJ V ch v t n).2=DO (FT V v b) t/\∀j,j<b->¬Gj V ch v t j (DO (FT V v b) t+1)
 |0=>⟨Int.le_refl _,fun j d=>by omega,rfl⟩
 |n+1=>by
  obtain⟨o,f,c⟩:=Tx V ch v t n;by_cases h:Gj V ch v t n (BJ V ch v t n).2
  ·rw[N3 h]
   refine⟨by have:=h.2.2;omega,fun j d a=>?_,by omega,⟨h.1,h.2.1,by have:=h.2.2;omega⟩,rfl,fun j d a=>f j d ⟨a.1,a.2.1,by have:=a.2.2;have:=h.2.2;omega⟩⟩;rcases Nat.lt_or_ge j n with e|e
   ·exact f j e ⟨a.1,a.2.1,Int.lt_trans a.2.2 h.2.2⟩
   ·obtain rfl:j=n:=by omega
    have:=a.2.2;dsimp only at this;omega
  ·rw[Ov h]
   refine⟨o,fun j d=>?_,?_⟩
   ·rcases Nat.lt_or_ge j n with e|e
    ·exact f j e
    ·obtain rfl:j=n:=by omega
     exact h
   ·cases l:(BJ V ch v t n).1 with
    |none=>rw[l]at c;exact c
    |some b=>rw[l]at c;exact⟨by have:=c.1;omega,c.2⟩
theorem Qn{ch:List Bool}{x:Bool}(a:b<ch.length):(ch.set b x).getD b false=x:=by
 rw[List.getD_eq_getElem?_getD,List.getElem?_set_self a];rfl
theorem VY{ch:List Bool}{x:Bool}(h:i≠b):(ch.set b x).getD i false=ch.getD i false:=by
 rw[List.getD_eq_getElem?_getD,List.getD_eq_getElem?_getD,List.getElem?_set_ne (fun e=>h e.symm)]
def Gc(ch:List Bool)(n:Nat):List Nat:=(List.range n).filter fun i=>ch.getD i false
theorem RR(ch:List Bool)(n:Nat):(Gc ch n).Pairwise (· < ·):=List.Pairwise.filter _ List.pairwise_lt_range
theorem ij{ch:List Bool}{n:Nat}:i∈Gc ch n↔i<n/\ch.getD i false=true:=by
 unfold Gc;rw[List.mem_filter,List.mem_range]
structure CS where
 ch:List Bool
 v:List Nat
def Hf(V:List (List Nat))(t:Int)(s:CS):CS:=match (BJ V s.ch s.v t V.length).1 with
 |none=>s
 |some b=>⟨s.ch.set b true,xorL s.v (V.getD b [])⟩
def BD(V:List (List Nat))(t:Int)(p:Nat):Nat->CS
 |0=>⟨(List.replicate V.length false).set p true,V.getD p []⟩
 |k+1=>Hf V t (BD V t p k)
theorem lV{s:CS}(h:(BJ V s.ch s.v t V.length).1=none):Hf V t s=s:=by unfold Hf;rw[h]
theorem lW{s:CS}(h:(BJ V s.ch s.v t V.length).1=some b):Hf V t s=⟨s.ch.set b true,xorL s.v (V.getD b [])⟩:=by unfold Hf;rw[h]
theorem Ux{V:List (List Nat)}{t:Int}{p k:Nat}(h:(BJ V (BD V t p k).ch (BD V t p k).v t V.length).1=none):∀j,BD V t p (k+j)=BD V t p k
 |0=>rfl
 |j+1=>by
  show Hf V t (BD V t p (k+j))=_;rw[Ux h j,lV h]
variable {L:List Nat}
def BH(L:List Nat)(n:Nat):Nat:=if n<=L.length then L.getD (n-1) 0 else n*11400714819323198485%18446744073709551616
theorem nh{n:Nat}(h:n<L.length):BH L (n+1)=L.getD n 0:=by
 unfold BH;rw[if_pos (by omega),Nat.add_sub_cancel]
theorem kN{n:Nat}(h:L.length<n):BH L n=n*11400714819323198485%18446744073709551616:=by
 unfold BH;rw[if_neg (by omega)]
theorem Vn(h:Ac L)(n:Nat):BH L n<18446744073709551616:=by
 unfold BH;split
 ·exact h.get _
 ·omega
def BY(L:List Nat)(N:Nat)(a:List Nat):Nat->List Nat
 |0=>a
 |k+1=>(BY L N a k).eraseIdx (BH L (N+k+1)%(BY L N a k).length)
def Ef(L:List Nat)(N:Nat)(a:List Nat):Nat->List Nat
 |0=>[]
 |k+1=>Ef L N a k++[(BY L N a k).getD (BH L (N+k+1)%(BY L N a k).length) 0]
theorem Nn(L:List Nat)(N:Nat)(a:List Nat):∀k,k<=a.length->(BY L N a k).length=a.length-k
 |0,_=>rfl
 |k+1,h=>by
  have d:=Nn L N a k (by omega);have c:BH L (N+k+1)%(BY L N a k).length<(BY L N a k).length:=Nat.mod_lt _ (by omega);show((BY L N a k).eraseIdx _).length=_;rw[List.length_eraseIdx,if_pos c,d];omega
theorem Ly(L:List Nat)(N:Nat)(a:List Nat):∀k,(Ef L N a k).length=k
 |0=>rfl
 |k+1=>by
  show(Ef L N a k++[_]).length=_;rw[List.length_append,Ly L N a k];rfl
theorem gI(l:List Nat)(j:Nat)(h:j<l.length):(l.getD j 0::l.eraseIdx j).Perm l:=by
 rw[List.eraseIdx_eq_take_drop_succ];have e:l=l.take j++l.getD j 0::l.drop (j+1):=by
  rw[List.getD_eq_getElem?_getD,List.getElem?_eq_getElem h];simp
 exact(List.perm_middle.symm).trans (List.Perm.of_eq e.symm)
theorem SC(L:List Nat)(N:Nat)(a:List Nat):∀k,k<=a.length->(Ef L N a k++BY L N a k).Perm a
 |0,_=>List.Perm.refl _
 |k+1,h=>by
  have d:=SC L N a k (by omega);have e:=Nn L N a k (by omega);have c:BH L (N+k+1)%(BY L N a k).length<(BY L N a k).length:=Nat.mod_lt _ (by omega);show((Ef L N a k++[_])++(BY L N a k).eraseIdx _).Perm a;rw[List.append_assoc];exact(List.Perm.append_left _ (gI _ _ c)).trans d
def Di(L:List Nat)(N n k:Nat):List Nat:=(List.range n).filter fun i=>decide (i∉BY L N (List.range n) k)
theorem S9(L:List Nat)(N n k:Nat)(h:k<=n):(Ef L N (List.range n) k).Perm (Di L N n k):=by
 have hp:=SC L N (List.range n) k (by simpa using h);have o:=hp.symm.nodup List.nodup_range;obtain⟨_,_,l⟩:=List.nodup_append.1 o;have d:=hp.filter fun i=>decide (i∉BY L N (List.range n) k);have e:(Ef L N (List.range n) k).filter (fun i=>decide (i∉BY L N (List.range n) k))=Ef L N (List.range n) k:=List.filter_eq_self.2 fun a c=>by simpa using fun j=>l a c a j rfl
 have f:(BY L N (List.range n) k).filter (fun i=>decide (i∉BY L N (List.range n) k))=[]:=List.filter_eq_nil_iff.2 fun a c=>by simp[c]
 rw[List.filter_append,e,f,List.append_nil]at d;exact d
theorem Ru(L:List Nat)(N n k:Nat)(h:k<=n):(Di L N n k).length=k:=by
 rw[<-(S9 L N n k h).length_eq,Ly]
def A7(l:List Nat):List Int:=l.map fun(x:Nat)=>(x:Int)
theorem Ig(l:List Nat):(A7 l).length=l.length:=by simp[A7]
theorem LN(l:List Nat)(i:Nat):(A7 l).getD i 0=((l.getD i 0:Nat):Int):=by
 simp only[A7,List.getD_eq_getElem?_getD,List.getElem?_map];cases l[i]? <;>rfl
theorem Rp(l m:List Nat):A7 (l++m)=A7 l++A7 m:=by simp[A7]
theorem dk(l:List Nat)(j:Nat):A7 (l.eraseIdx j)=(A7 l).eraseIdx j:=by
 simp[A7,List.eraseIdx_eq_take_drop_succ,List.map_take,List.map_drop]
theorem kJ(L:List Nat)(N n k:Nat)(h:k<=n):(A7 (Ef L N (List.range n) k)).mergeSort (fun x y=>decide (x<=y))=A7 (Di L N n k):=by
 have hp:((A7 (Ef L N (List.range n) k)).mergeSort fun x y=>decide (x<=y)).Perm (A7 (Di L N n k)):=(List.mergeSort_perm _ _).trans ((S9 L N n k h).map _);refine List.Perm.eq_of_pairwise (le:=fun x y:Int=>x<=y) (fun a b _ _ d e=>Int.le_antisymm d e) ?_ ?_ hp
 ·have:=List.pairwise_mergeSort (le:=fun x y:Int=>decide (x<=y)) (fun a b c d e=>by simp at*;omega) (fun a b=>by simp;omega) (A7 (Ef L N (List.range n) k))
  exact this.imp fun h=>by simpa using h
 ·have:(Di L N n k).Pairwise (· < ·):=List.Pairwise.filter _ List.pairwise_lt_range
  exact List.Pairwise.map _ (fun a b f=>by omega) this
theorem oo(L:List Nat)(N n k i:Nat)(h:i<(Di L N n k).length):(Di L N n k).getD i 0<n:=by
 have a:(Di L N n k)[i]∈Di L N n k:=List.getElem_mem h;have:=(List.mem_filter.1 a).1;simpa [List.getD_eq_getElem?_getD,List.getElem?_eq_getElem h]using this
variable {ch:List Bool}{ps:List Nat}{n:Nat}
structure E4(n:Nat)(ch:List Bool)(ps:List Nat):Prop where
 len:ch.length=n
 nodup:ps.Nodup
 lt:∀i∈ps,i<n
 mem:∀i,i<n->ch.getD i false=decide (i∈ps)
theorem Xp{p:Nat}(hp:p<n):E4 n ((List.replicate n false).set p true) [p]:=by
 refine⟨by rw[List.length_set,List.length_replicate],by simp,fun i a=>by rw[List.mem_singleton.1 a];exact hp,fun i a=>?_⟩;by_cases e:i=p
 ·subst e
  rw[Qn (by rw[List.length_replicate];exact a)];simp
 ·rw[VY e,List.getD_eq_getElem?_getD,List.getElem?_replicate,if_pos a]
  simp[e]
theorem E4.snoc(h:E4 n ch ps){b:Nat}(f:b<n)(o:ch.getD b false=false):E4 n (ch.set b true) (ps++[b]):=by
 have p:b∉ps:=by
  have:=h.mem b f;rw[o]at this;exact fun e=>by rw[decide_eq_true e]at this;cases this
 refine⟨by rw[List.length_set,h.len],?_,fun i d=>?_,fun i d=>?_⟩
 ·rw[List.nodup_append]
  refine⟨h.nodup,by simp,fun a j c l e=>p ?_⟩;rw[<-List.mem_singleton.1 l,<-e];exact j
 ·rcases List.mem_append.1 d with e|e
  ·exact h.lt i e
  ·rw[List.mem_singleton.1 e];exact f
 ·by_cases e:i=b
  ·subst e
   rw[Qn (by rw[h.len];exact d)];simp
  ·rw[VY e,h.mem i d]
   simp[e]
theorem E4.many(h:E4 n ch ps):ps.Perm (Gc ch n):=by
 have d:(Gc ch n).Nodup:=(RR ch n).imp fun h=>Nat.ne_of_lt h;refine(List.perm_ext_iff_of_nodup h.nodup d).2 fun i=>?_;rw[ij];constructor
 ·intro a
  exact⟨h.lt i a,by rw[h.mem i (h.lt i a)];exact decide_eq_true a⟩
 ·rintro⟨e,c⟩
  rw[h.mem i e]at c;exact of_decide_eq_true c
theorem E4.sort(h:E4 n ch ps):(A7 ps).mergeSort (fun x y=>decide (x<=y))=A7 (Gc ch n):=by
 have hp:((A7 ps).mergeSort fun x y=>decide (x<=y)).Perm (A7 (Gc ch n)):=(List.mergeSort_perm _ _).trans (h.many.map _);refine List.Perm.eq_of_pairwise (le:=fun x y:Int=>x<=y) (fun a b _ _ d e=>Int.le_antisymm d e) ?_ ?_ hp
 ·have:=List.pairwise_mergeSort (le:=fun x y:Int=>decide (x<=y)) (fun a b c d e=>by simp at*;omega) (fun a b=>by simp;omega) (A7 ps)
  exact this.imp fun h=>by simpa using h
 ·exact List.Pairwise.map _ (fun a b f=>by omega) (RR ch n)
theorem nX(ps:List Nat)(i:Nat):decide ((i:Int)∈A7 ps)=decide (i∈ps):=by
 have:((i:Int)∈A7 ps)↔i∈ps:=by
  unfold A7;rw[List.mem_map];constructor
  ·rintro⟨j,a,c⟩
   have:j=i:=by omega
   rw[<-this];exact a
  ·exact fun h=>⟨i,h,rfl⟩
 simp only[this]
theorem oi(a v:List Nat):cnt (a.take (min a.length v.length))<=cnt a/\cnt a-cnt (a.take (min a.length v.length))+cnt (xorL (a.take (min a.length v.length)) v)=cnt (xorL a v):=by
 have f:cnt (a.take (min a.length v.length))+cnt (a.drop (min a.length v.length))=cnt a:=by rw[<-NU,List.take_append_drop]
 refine⟨by omega,?_⟩;rcases Nat.lt_or_ge a.length v.length with h|h
 ·rw[Nat.min_eq_left (Nat.le_of_lt h),List.take_length]
  omega
 ·have c:xorL a v=xorL (a.take (min a.length v.length)) v++a.drop (min a.length v.length):=by
   rw[Nat.min_eq_right h];apply Ed
   ·rw[BT,List.length_append,BT,List.length_take,List.length_drop]
    omega
   ·intro i o
    rw[Du,List.getD_eq_getElem?_getD (l:=_++_),List.getElem?_append];have d:(xorL (a.take v.length) v).length=v.length:=by rw[BT,List.length_take];omega
    rw[d];by_cases e:i<v.length
    ·rw[if_pos e,<-List.getD_eq_getElem?_getD,Du]
     congr 1;rw[List.getD_eq_getElem?_getD,List.getD_eq_getElem?_getD,List.getElem?_take,if_pos e]
    ·rw[if_neg e,F5 (a:=v) (by omega),Nat.xor_zero,List.getElem?_drop,List.getD_eq_getElem?_getD]
     congr 2;omega
  have j:cnt (xorL a v)=cnt (xorL (a.take (min a.length v.length)) v)+cnt (a.drop (min a.length v.length)):=by rw[c,NU]
  omega
def distN(d:Nat)(t:Int):Nat:=(DO d t).toNat
theorem Sq(d:Nat)(t:Int):((distN d t:Nat):Int)=DO d t:=Int.toNat_of_nonneg (OC d t)
theorem ir{V:List (List Nat)}{t:Int}{p k:Nat}(a:k<=31)(h:(BJ V (BD V t p k).ch (BD V t p k).v t V.length).1=none):BD V t p k=BD V t p 31:=by
 have:=Ux h (31-k);rw[show k+(31-k)=31 by omega]at this;exact this.symm
theorem Uy{V:List (List Nat)}{t:Int}{p:Nat}{m:Nat}(a:∀i,(V.getD i []).length<=m):∀k,(BD V t p k).v.length<=m
 |0=>a p
 |k+1=>by
  have c:=Uy (t:=t) (p:=p) a k;show(Hf V t (BD V t p k)).v.length<=m;unfold Hf;split
  ·exact c
  ·rename_i b _
   show(xorL _ _).length<=m;rw[BT];have:=a b;omega
def placeN(b:Int)(n:Nat):Nat:=((b.tmod n+n).tmod n).toNat
theorem Vk(b:Int){n:Nat}(e:0<n):((placeN b n:Nat):Int)=(b.tmod n+n).tmod n/\placeN b n<n:=by
 have a: -(n:Int)<b.tmod n:=by
  have:=Int.lt_tmod_of_pos b (show(0:Int)<n by omega);omega
 have c:0<=(b.tmod n+n).tmod n:=Int.tmod_nonneg _ (by omega);have d:(b.tmod n+n).tmod n<n:=Int.tmod_lt_of_pos _ (by omega);unfold placeN;omega
theorem gV(xs:List Int)(k:Nat)(a:k<xs.length):xs.take (k+1)=xs.take k++[xs.getD k 0]:=by
 rw[List.take_succ_eq_append_getElem a];simp[List.getD_eq_getElem?_getD,List.getElem?_eq_getElem a]
theorem fZ(a:Option Addr)(n c:Nat)(xs:List Int)(x:Int)(w:World)(h:IntzAt w a n xs)(C:n<=1048576):
  Calls Tryz.prog 104 #[.slice a n c,.int .i64 x] w fun e w'=> ∃r:Int,e=.returned (.int .i64 r)/\decide (0<=r)=decide (x∈xs)/\w'=w:=by
 obtain rfl:=h.1;have v:=Ab h;clear h;go_enter Tryz.func104,Tryz.ntmps104;go_wp2;go_loop [8] (fun i=> ∃k:Nat,k<=xs.length/\i=.int .i64 k/\Hid (x∉xs.take k)) (fun i=>xs.length-(intOf i).toNat)
 case atStart=>exact⟨0,Nat.zero_le _,rfl,Ab (by rw[List.take_zero];exact List.not_mem_nil)⟩
 case round=>
  obtain⟨k,A,rfl,j⟩:=hrel;by_cases d:k<xs.length
  ·obtain⟨b,off,rfl,f⟩:=(Aa v).at d
   have l:=f k d;have q:(k:Int)<(xs.length:Int):=by omega
   have u:=Ab (gV xs k d);have s:=Ab (show xs.getD k 0∈xs from by rw[List.getD_eq_getElem?_getD,List.getElem?_eq_getElem d];exact List.getElem_mem d);clear f;generalize xs.getD k 0=y at*;by_cases p:x=y
   ·subst p
    go_wp2;go_ret;exact⟨_,rfl,⟨fun _=>Aa s,fun _=>by omega⟩,rfl⟩
   ·go_wp2
    go_round
    case rel=>exact⟨k+1,by omega,by go_num,Ab (by rw[Aa u,List.mem_append,List.mem_singleton];exact fun h=>h.elim (Aa j) p)⟩
    case measure=>simp[intOf];omega
  ·have o:xs.take k=xs:=List.take_of_length_le (by omega)
   rw[o]at j;go_wp2;go_ret;exact⟨_,rfl,⟨fun h=>absurd h (by decide),fun h=>absurd h (Aa j)⟩,rfl⟩
theorem Rm(a:Option Addr)(n c:Nat)(xs:List Int)(x:Int)(w:World)(h:IntzAt w a n xs)(j:n<=1048576):
  Calls Tryz.prog 75 #[.slice a n c,.int .i64 x] w fun e w'=>e=.returned (.bool (decide (x∈xs)))/\w'=w:=by
 have f:=Ab (fZ a n c xs x w h j);clear h;go_enter Tryz.func75,Tryz.ntmps75;go_wp2_with (go_at_call 104;refine(Aa f).mono ?_;rintro e w1 ⟨r,rfl,l,d⟩;obtain rfl:=d.symm;clear d f);go_ret;exact⟨rfl,rfl⟩
theorem Sn(a:Addr)(n c:Nat)(xs:List Int)(w:World)(h:IntzAt w (some a) n xs)(K:n<=1048576):
  Calls Tryz.prog 68 #[.slice (some a) n c] w fun e w'=> ∃v,e=.returned v/\Am w' w.heap.size v xs/\Below w.heap.size w w':=by
 have s:=fun wx=>Lib.run_eql_slice_nil (P:=Tryz.prog) wx 27 3 (some a) n c 0 0 Tryz.underlying27;obtain⟨J,E,p,q,r⟩:=info_parts Om;go_enter Tryz.func68,Tryz.ntmps68;go_wp2_with (first|(at_builtin;refine wpList_append_own _ rfl (.tmp 5) (.tmp 6) 27 rfl w.heap.size 3 J (.int .i64 0) 1 8 Tryz.underlying27 E p q r rfl (by decide) _ _ _ rfl (World.ownsRow_lit _ #[] 0 (Nat.le_refl _) (by decide) rfl) a n c (cellsZ xs) rfl ?c0 ?c1 ?c2 ?c3 ?c4 ?c5 ?_))
 case c0=>rw[F9,h.1,Nat.mul_one]
 case c1=>
  have C:=h.below ((Below.refl _ _).alloc (Nat.le_refl _) (.cells #[] 3));intro j u o;obtain⟨b,off,e,D⟩:=C.at (i:=j) (by have:=(List.getElem?_eq_some_iff.1 o).1;rw[F9,h.1]at this;exact this);simp only[Option.some.injEq]at e;subst e;have l:j<n:=by have:=(List.getElem?_eq_some_iff.1 o).1;rw[F9,h.1]at this;exact this
  rw[G8 xs j (by rw[h.1];exact l)]at o;rw[show(⟨b,off,none⟩:Addr).add j=⟨b,off+j,none⟩ by unfold Addr.add;split<;>simp_all,D j l];exact o
 case c2=>intro u I;obtain⟨x,_,rfl⟩:=List.mem_map.1 I;rfl
 case c3=>unfold maxLen;omega
 case c4=>omega
 case c5=>simp
 intro v' w1 f d _;have y:=Ab (show Below w.heap.size w w1 from((Below.refl _ _).alloc (Nat.le_refl _) _).grown d (by simp) (fun k G=>by simp[Value.ownBlock]at G;omega));have A:=Ab (show Am w1 w.heap.size v' xs from by have H:=h.1;show w1.ownsRow _ _ _ _ xs.length _;rw[H];simpa using f);clear f d;go_wp2;go_ret;exact⟨_,rfl,Aa A,Aa y⟩
theorem ii(b:Int){n:Nat}(a:0<n):((placeN b n:Nat):Int)=(b.tmod n+n)%n:=by
 rw[(Vk b a).1];have c: -(n:Int)<b.tmod n:=by
  have:=Int.lt_tmod_of_pos b (show(0:Int)<n by omega);omega
 exact Int.tmod_eq_emod_of_nonneg (by omega)
theorem ev(b:Int)(n:Nat)(c:0<n)(l:n<=1048576)(j: -9223372036854775808<=b/\b<=9223372036854775807)(w:World):
  Calls Tryz.prog 240 #[.int .i64 b,.int .i64 (n:Int)] w fun e w'=>e=.returned (.int .i64 ((placeN b n:Nat):Int))/\w'=w:=by
 have d:¬((n:Int)=0):=by omega
 have a:=ii b c;have f:(b.tmod n)<n:=Int.tmod_lt_of_pos _ (by omega);have h: -(n:Int)<b.tmod n:=by
  have:=Int.lt_tmod_of_pos b (show(0:Int)<n by omega);omega
 go_enter Tryz.func240,Tryz.ntmps240;go_wp2;go_ret;exact⟨congrArg (fun x=>Ending.returned (.int .i64 x)) a.symm,rfl⟩
theorem kK(d:Nat)(t:Int)(a:d<=1048576)(ht: -1099511627776<=t/\t<=1099511627776):IntKind.u64.wrap (max (d:Int) t-IntKind.u64.wrap (min (d:Int) t))=((distN d t:Nat):Int):=by
 rw[IntKind.wrap_u64,IntKind.wrap_u64,Sq];unfold DO;split<;>omega
theorem Rv(d:Nat)(t:Int)(f:d<=1048576)(ht: -1099511627776<=t/\t<=1099511627776)(w:World):
  Calls Tryz.prog 271 #[.int .i64 (d:Int),.int .i64 t] w fun e w'=>e=.returned (.int .u64 ((distN d t:Nat):Int))/\w'=w:=by
 have a:=Jz (d:Int) t;have c:=Im (d:Int) t;go_enter Tryz.func271,Tryz.ntmps271;go_wp2;go_ret;exact⟨congrArg (fun x=>Ending.returned (.int .u64 x)) (kK d t f ht),rfl⟩
variable {xs:List Int}
theorem Fe(n l h:Int)(w:World)(a:l<=n/\n<=h):Calls Tryz.prog 41 #[.int .i64 n,.int .i64 l,.int .i64 h] w fun e w'=>e=.returned (.bool true)/\w'=w:=by
 obtain⟨c,d⟩:=a;go_enter Tryz.func41,Tryz.ntmps41;go_wp2;go_ret;exact⟨rfl,rfl⟩
theorem GG(n l h:Int)(w:World)(a:¬(l<=n/\n<=h)):Calls Tryz.prog 41 #[.int .i64 n,.int .i64 l,.int .i64 h] w fun e w'=>e=.returned (.bool false)/\w'=w:=by
 by_cases c:l<=n
 ·have d:¬n<=h:=fun e=>a ⟨c,e⟩
  clear a;go_enter Tryz.func41,Tryz.ntmps41;go_wp2;go_ret;exact⟨rfl,rfl⟩
 ·clear a
  go_enter Tryz.func41,Tryz.ntmps41;go_wp2;go_ret;exact⟨rfl,rfl⟩
theorem iS(k:Int)(w:World):Calls Tryz.prog 42 #[.int .i64 k] w fun e w'=>((e=.returned (.bool true)/\(1<=k/\k<=3))\/(e=.returned (.bool false)/\¬(1<=k/\k<=3)))/\w'=w:=by
 have a:k=1\/k=2\/k=3\/(k≠1/\k≠2/\k≠3):=by omega
 rcases a with rfl|rfl|rfl|⟨c,d,f⟩
 ·go_enter Tryz.func42,Tryz.ntmps42
  go_wp2;go_ret;exact⟨.inl ⟨rfl,by decide⟩,rfl⟩
 ·go_enter Tryz.func42,Tryz.ntmps42
  go_wp2;go_ret;exact⟨.inl ⟨rfl,by decide⟩,rfl⟩
 ·go_enter Tryz.func42,Tryz.ntmps42
  go_wp2;go_ret;exact⟨.inl ⟨rfl,by decide⟩,rfl⟩
 ·have h:¬(1<=k/\k<=3):=by omega
  have l:(k==1)=false:=beq_eq_false_iff_ne.2 c;have o:(k==2)=false:=beq_eq_false_iff_ne.2 d;have p:(k==3)=false:=beq_eq_false_iff_ne.2 f;have j:=Ab h;clear c d f h;go_enter Tryz.func42,Tryz.ntmps42;go_wp2;go_ret;exact⟨.inr ⟨rfl,Aa j⟩,rfl⟩
def EF(xs:List Int)(k:Nat):Nat->Nat
 |0=>0
 |m+1=>EF xs k m+if∃j,j<k/\xs.getD j 0=(m:Int)then 1 else 0
theorem Z7(xs:List Int)(k m:Nat):EF xs k m<=m:=by
 induction m with
 |zero=>exact Nat.le_refl _
 |succ m a=>unfold EF;split<;>omega
theorem pI(xs:List Int)(k m i:Nat)(c:i<m)(h:¬∃j,j<k/\xs.getD j 0=(i:Int)):EF xs k m+1<=m:=by
 induction m with
 |zero=>omega
 |succ m a=>
  unfold EF;by_cases e:i=m
  ·subst e
   rw[if_neg h];have:=Z7 xs k i;omega
  ·have:=a (by omega)
   split<;>omega
theorem pJ(xs:List Int)(k m:Nat)(h:¬∃v:Nat,v<m/\xs.getD k 0=(v:Int)):EF xs (k+1) m=EF xs k m:=by
 induction m with
 |zero=>rfl
 |succ m d=>
  unfold EF;rw[d fun⟨v,c,a⟩=>h ⟨v,by omega,a⟩];have e:(∃j,j<k+1/\xs.getD j 0=(m:Int))↔∃j,j<k/\xs.getD j 0=(m:Int):=by
   refine⟨fun⟨j,c,a⟩=>⟨j,?_,a⟩,fun⟨j,c,a⟩=>⟨j,by omega,a⟩⟩;by_cases q:j=k
   ·subst q;exact absurd ⟨m,Nat.lt_succ_self m,a⟩ h
   ·omega
  simp only[e]
theorem pK(xs:List Int)(k m x:Nat)(l:x<m)(c:xs.getD k 0=(x:Int))(h:¬∃j,j<k/\xs.getD j 0=(x:Int)):EF xs (k+1) m=EF xs k m+1:=by
 induction m with
 |zero=>omega
 |succ m f=>
  unfold EF;by_cases e:x=m
  ·subst e
   rw[pJ xs k x fun⟨v,d,a⟩=>by rw[c]at a;omega,if_pos ⟨k,Nat.lt_succ_self k,c⟩,if_neg h]
  ·rw[f (by omega)]
   have q:(∃j,j<k+1/\xs.getD j 0=(m:Int))↔∃j,j<k/\xs.getD j 0=(m:Int):=by
    refine⟨fun⟨j,d,a⟩=>⟨j,?_,a⟩,fun⟨j,d,a⟩=>⟨j,by omega,a⟩⟩;by_cases r:j=k
    ·subst r;rw[c]at a;omega
    ·omega
   simp only[q];omega
theorem WA{id n k:Nat}(f:id<n)(h:∀j,j<k->(0<=xs.getD j 0/\xs.getD j 0<=(n:Int)-1)/\xs.getD j 0≠(id:Int)/\∀q,q<j->xs.getD q 0≠xs.getD j 0):k<n:=by
 have o:∀q,q<=k->EF xs q n=q:=by
  intro q
  induction q with
  |zero=>
   intro _;have:∀m,EF xs 0 m=0:=by
    intro m
    induction m with
    |zero=>rfl
    |succ m l=>unfold EF;rw[l,if_neg fun⟨j,c,_⟩=>by omega]
   exact this n
  |succ q l=>
   intro r;obtain⟨⟨a,b⟩,_,d⟩:=h q (by omega);obtain⟨x,p⟩:∃x:Nat,xs.getD q 0=(x:Int):=⟨(xs.getD q 0).toNat,by omega⟩;rw[pK xs q n x (by omega) p fun⟨j,c,e⟩=>d j c (by rw[e,p]),l (by omega)]
 have:=pI xs k n id f fun⟨j,c,e⟩=>(h j c).2.1 e;have:=o k (Nat.le_refl _);omega
theorem Sr:Tryz.prog.underlying 27=some (.slice (Tryz.prog.elem 27)):=by kernel_rfl
theorem dx:Tryz.prog.elem 27=3:=by kernel_rfl
theorem lA(a:Option Addr)(n c q:Nat)(e:q<=c)(w:World):
  (Instr.sliceAt 27 (.slice a n c) none (some (.int .i64 (q:Int))) none).run Tryz.prog w=.ok (.slice a q c) w:=by
 have d:∀w:World,(sizeOf 3).run Tryz.prog w=.ok 1 w:=fun w=>by kernel_rfl
 rw[run_sliceAt_slice _ _ _ _ _ _ Sr,run_slice_h _ _ _ _ _ Sr _ _ (by omega) (by omega),dx,d];cases a<;>simp[Result.andThen,sliced,Addr.add]
theorem IntzAt.take{w:World}{a:Option Addr}{n:Nat}(h:IntzAt w a n xs){k:Nat}(f:k<=n):IntzAt w a k (xs.take k):=by
 refine⟨by rw[List.length_take,h.1];omega,?_⟩;rcases h.2 with e|⟨b,off,rfl,c⟩
 ·left;omega
 ·refine .inr ⟨b,off,rfl,fun i d=>?_⟩
  rw[c i (by omega),List.getD_eq_getElem?_getD,List.getD_eq_getElem?_getD,List.getElem?_take_of_lt d]
theorem kW{k:Nat}(d:k<=xs.length)(x:Int):x∈xs.take k↔∃j,j<k/\xs.getD j 0=x:=by
 rw[List.mem_iff_getElem?];constructor
 ·rintro⟨j,a⟩
  have c:=(List.getElem?_eq_some_iff.1 a).1;rw[List.length_take]at c;refine⟨j,by omega,?_⟩;rw[List.getElem?_take_of_lt (by omega)]at a;rw[List.getD_eq_getElem?_getD,a];rfl
 ·rintro⟨j,a,rfl⟩
  refine⟨j,?_⟩;rw[List.getElem?_take_of_lt a,List.getElem?_eq_getElem (by omega),List.getD_eq_getElem?_getD,List.getElem?_eq_getElem (by omega)];rfl
theorem pU(a:Option Addr)(n c:Nat)(xs:List Int)(id N:Nat)(w:World)(h:IntzAt w a n xs)(hn:n<=9223372036854775807)(X:n<=c)(W:1<=N/\N<=8)(E:id<N):
  Calls Tryz.prog 43 #[.slice a n c,.int .i64 (id:Int),.int .i64 (N:Int)] w fun e w'=>((e=.returned (.bool true)/\CU xs id N)\/(e=.returned (.bool false)/\¬CU xs id N))/\w'=w:=by
 obtain rfl:=h.1;have P:IntKind.i64.wrap ((N:Int)-1)=(N:Int)-1:=by rw[IntKind.wrap_i64];omega
 have H:=Ab h;clear h;go_enter Tryz.func43,Tryz.ntmps43;go_wp2;go_loop [11] (fun i=> ∃k:Nat,k<=xs.length/\i=.int .i64 k/\Hid (∀j,j<k->(0<=xs.getD j 0/\xs.getD j 0<=(N:Int)-1)/\xs.getD j 0≠id/\∀k,k<j->xs.getD k 0≠xs.getD j 0)) (fun i=>xs.length-(intOf i).toNat)
 case atStart=>exact⟨0,Nat.zero_le _,rfl,Ab (fun j I=>by omega)⟩
 case round=>
  obtain⟨k,Z,rfl,s⟩:=hrel;by_cases r:k<xs.length
  ·have J:(k:Int)<(xs.length:Int):=by omega
   have Q:k<N:=WA E (Aa s);obtain⟨b,off,rfl,o⟩:=(Aa H).at r;have G:=o k r;have S:=lA (some ⟨b,off,none⟩) xs.length c k (by omega);have A:=Ab (Rm (some ⟨b,off,none⟩) k c (xs.take k) (xs.getD k 0) w ((Aa H).take (by omega)) (by omega));have l:=kW (xs:=xs) (k:=k) (by omega) (xs.getD k 0);clear o;have f:(¬((0<=xs.getD k 0/\xs.getD k 0<=(N:Int)-1)/\xs.getD k 0≠id/\∀q,q<k->xs.getD q 0≠xs.getD k 0))->¬CU xs id N:=fun e p=>e (p.2 k r);have f:=Ab f;by_cases y:0<=xs.getD k 0/\xs.getD k 0<=(N:Int)-1
   case neg=>
    have v:=Ab ((Aa f) fun p=>y p.1);clear l A f s;generalize xs.getD k 0=x at*
    go_wp2_with (first
     |(go_at_call 41;refine(GG _ _ _ _ y).mono ?_;rintro e w1 ⟨rfl,d⟩;obtain rfl:=d.symm;clear d)
     |fail)
    go_ret;exact⟨.inr ⟨rfl,Aa v⟩,rfl⟩
   case pos=>
    by_cases u:xs.getD k 0=id
    ·have v:=Ab ((Aa f) fun p=>p.2.1 u)
     rw[u]at G y;clear u f s l A
     go_wp2_with (first
      |(go_at_call 41;refine(Fe _ _ _ _ y).mono ?_;rintro e w1 ⟨rfl,d⟩;obtain rfl:=d.symm;clear d)
      |fail)
     go_ret;exact⟨.inr ⟨rfl,Aa v⟩,rfl⟩
    ·by_cases C:xs.getD k 0∈xs.take k
     ·have v:=Ab ((Aa f) fun p=>by obtain⟨j,I,e⟩:=l.1 C;exact p.2.2 j I e)
      have D:decide (xs.getD k 0∈xs.take k)=true:=decide_eq_true C;rw[D]at A;clear l C D f s;generalize xs.getD k 0=x at*;have O:(x==(id:Int))=false:=beq_eq_false_iff_ne.2 u;clear u
      go_wp2_with (first
       |(go_at_call 41;refine(Fe _ _ _ _ y).mono ?_;rintro e w1 ⟨rfl,d⟩;obtain rfl:=d.symm;clear d)
       |(go_at_call 75;refine(Aa A).mono ?_;rintro e w1 ⟨rfl,d⟩;obtain rfl:=d.symm;clear d)
       |fail)
      go_ret;exact⟨.inr ⟨rfl,Aa v⟩,rfl⟩
     ·have D:decide (xs.getD k 0∈xs.take k)=false:=decide_eq_false C
      rw[D]at A
      have K:=Ab (show∀j,j<k+1->(0<=xs.getD j 0/\xs.getD j 0<=(N:Int)-1)/\xs.getD j 0≠id/\∀k,k<j->xs.getD k 0≠xs.getD j 0 from fun j I=>by
       by_cases e:j=k
       ·rw[e];exact⟨y,u,fun q R e=>C (l.2 ⟨q,R,e⟩)⟩
       ·exact Aa s j (by omega))
      clear l C D f s;generalize xs.getD k 0=x at*;have O:(x==(id:Int))=false:=beq_eq_false_iff_ne.2 u;clear u
      go_wp2_with (first
       |(go_at_call 41;refine(Fe _ _ _ _ y).mono ?_;rintro e w1 ⟨rfl,d⟩;obtain rfl:=d.symm;clear d)
       |(go_at_call 75;refine(Aa A).mono ?_;rintro e w1 ⟨rfl,d⟩;obtain rfl:=d.symm;clear d)
       |fail)
      go_round
      case rel=>exact⟨k+1,r,by go_num,K⟩
      case measure=>simp[intOf];omega
  ·have v:=Ab (show CU xs id N from⟨by have:=WA E (Aa s);omega,fun i Y=>Aa s i (by omega)⟩)
   go_wp2;go_ret;exact⟨.inl ⟨rfl,Aa v⟩,rfl⟩
end Go.Proofs.YtmmikiikddokgaaGreatDoor
