/-
  Rows of words as numbers, and what echelon's calls and the reference's tell of rows, on plain lists: the two agree on a basis. Of no program; words below 2^64.
  A slice of words cut at its end. No condition.
  Slices of rows of words in memory: what can be read ('VecsAt'), and what is the call's own, each row in a block of its own ('OwnV'). Contracts of echelon.add, own, by and its closure, Reduce: for rows of at most 2^20 words, in every world that holds the table of math/bits.
-/
import Derived.Test.YtlhhinlghhjghaaGreatDoorU9
import Derived.Test.YtlhhinlghhjghaaGreatDoorU1
import Derived.Test.YtlhhinlghhjghaaGreatDoorU2
import Derived.Test.YtlhhinlghhjghaaGreatDoorU0
namespace Go.Proofs.YtlhhinlghhjghaaGreatDoor
open Go.RowKit
set_option linter.unusedVariables false
set_option linter.unusedSimpArgs false
set_option maxRecDepth 4000
set_option maxHeartbeats 8000000
variable {B l rs:List (List Nat)}{r b xs:List Nat}{M k n:Nat}{a:Option Addr}{v u:Value}{w w':World}
def val:List Nat→Nat
 |[]=>0
 |x::r=>2^64*val r+x
theorem smalls.tail{x:Nat}(h:smalls (x::r)):smalls r:=fun y hy=>h y (List.mem_cons_of_mem _ hy)
theorem smalls.nil:smalls []:=fun _ h=>by cases h
theorem ZaN:∀{xs:List Nat},smalls xs→∀i,(val xs).testBit i=getB xs i
 |[],_,i=>by simp[val,getB]
 |x::r,h,i=>by
  have hx:x<2^64:=h x List.mem_cons_self
  rw[val,Nat.testBit_two_pow_mul_add _ hx]
  unfold getB
  by_cases hi:i<64
  ·rw[if_pos hi,show i/64=0 by omega,show i%64=i by omega];rfl
  ·rw[if_neg hi,ZaN h.tail,getB,show i/64=(i-64)/64+1 by omega,show i%64=(i-64)%64 by omega];rfl
theorem ZmS(a b:List Nat)(i:Nat):getB (xorL a b) i=(getB a i^^getB b i):=by
 unfold getB
 rw[Zau,Nat.testBit_xor]
theorem ZrN{a:List Nat}(ha:smalls a)(hb:smalls b):val (xorL a b)=val a^^^val b:=by
 apply Nat.eq_of_testBit_eq
 intro i
 rw[ZaN (Zd8 ha hb),ZmS,Nat.testBit_xor,ZaN ha,ZaN hb]
theorem Zwr:val xs=0↔∀x∈xs,x=0:=by
 induction xs with
 |nil=>simp[val]
 |cons x r ih=>
  rw[val]
  constructor
  ·intro h y hy
   rcases List.mem_cons.1 hy with e|hy
   ·omega
   ·exact ih.1 (by omega) y hy
  ·intro h
   have h0:=h x List.mem_cons_self
   have h1:=ih.2 fun y hy=>h y (List.mem_cons_of_mem _ hy)
   omega
theorem Zey:∀(xs:List Nat),0≤firstI xs→∃k,k<xs.length∧(∀j,j<k→xs.getD j 0=0)∧xs.getD k 0≠0∧firstI xs=(k:Int)*64+Lib.ctz 64 (xs.getD k 0)
 |[],h=>by simp[firstI]at h
 |x::r,h=>by
  by_cases hx:x=0
  ·have hr:0≤firstI r:=by
    simp only[firstI,hx]at h
    split at h
    ·omega
    ·split at h
     ·omega
     ·omega
   obtain⟨k,hk,hz,hne,he⟩:=Zey r hr
   have hz':∀j,j<k+1→(x::r).getD j 0=0:=by
    intro j hj
    cases j with
    |zero=>simpa using hx
    |succ j=>simpa using hz j (by omega)
   have hk':k+1<(x::r).length:=by simpa using hk
   have hne':(x::r).getD (k+1) 0≠0:=by simpa using hne
   exact⟨k+1,hk',hz',hne',Zfj _ _ hk' hz' hne'⟩
  ·have hk':0<(x::r).length:=by simp
   have hne':(x::r).getD 0 0≠0:=by simpa using hx
   exact⟨0,hk',fun j hj=>by omega,hne',Zfj _ _ hk' (fun j hj=>by omega) hne'⟩
theorem Zbz(hs:smalls xs):firstI xs=if val xs=0 then -1 else(Ech.low (val xs):Int):=by
 rcases Zf5 xs with h|h
 ·have h1:=Zwr.2 ((ZcO xs).1 (by omega))
  rw[h,if_pos h1]
 ·obtain⟨k,hk,hz,hne,he⟩:=Zey xs h
  have hx:=hs.get k
  have hc:=Zng (xs.getD k 0) hne hx
  have hb:=Zr2 (xs.getD k 0) hne hx
  have hl:=fun j hj=>Zss (xs.getD k 0) j hne hx hj
  generalize Lib.ctz 64 (xs.getD k 0)=t at*
  have h1:(val xs).testBit (64*k+t)=true:=by rw[ZaN hs,ZjJ xs k t hc];exact hb
  have h2:∀j,j<64*k+t→(val xs).testBit j=false:=fun i hi=>by
   rw[ZaN hs]
   unfold getB
   by_cases e:i/64<k
   ·rw[hz _ e];simp
   ·rw[show i/64=k by omega];exact hl _ (by omega)
  rw[if_neg (Ech.ne_of_bit h1),Ech.low_unique h1 h2,he]
  omega
theorem ZkU(hs:smalls xs):firstI xs<64*(xs.length:Int)∧ -1≤firstI xs:=by
 rcases Zf5 xs with h|h
 ·omega
 ·obtain⟨k,hk,hz,hne,he⟩:=Zey xs h
  have hc:=Zng (xs.getD k 0) hne (hs.get k)
  omega
theorem ZbO(hs:smalls xs):firstI xs<0↔val xs=0:=by
 rw[Zbz hs]
 split
 ·rename_i h;simp[h]
 ·rename_i h
  constructor
  ·intro k;omega
  ·intro k;exact absurd k h
theorem ZjC{ys:List Nat}(hx:smalls xs)(hy:smalls ys):getI xs (firstI ys)=(decide (val ys≠0)&&(val xs).testBit (Ech.low (val ys))):=by
 rw[Zbz hy]
 split
 ·rename_i h;simp[h,getI]
 ·rename_i h
  rw[Zgp,ZaN hx]
  simp[h]
def ZcP(r b:List Nat):List Nat:=if getI r (firstI b)=true then xorL r b else r
def reduceL(B:List (List Nat))(v:List Nat):List Nat:=B.foldl ZcP v
theorem Zd1(hr:smalls r)(hb:smalls b):smalls (ZcP r b):=by
 unfold ZcP
 split
 ·exact Zd8 hr hb
 ·exact hr
theorem Zi8(hr:smalls r)(hb:smalls b):val (ZcP r b)=if val b≠0∧(val r).testBit (Ech.low (val b))=true then val r^^^val b else val r:=by
 unfold ZcP
 rw[ZjC hr hb]
 by_cases h1:val b=0
 ·simp[h1]
 ·by_cases h2:(val r).testBit (Ech.low (val b))=true
  ·simp[h1,h2,ZrN hr hb]
  ·simp[h1,h2]
theorem Zhh(r b:List Nat)(M:Nat)(hr:r.length≤M)(hb:b.length≤M):(ZcP r b).length≤M:=by
 unfold ZcP
 split
 ·rw[Zae];omega
 ·exact hr
def Fit(M:Nat)(B:List (List Nat)):Prop:=∀b∈B,smalls b∧b.length≤M
theorem Fit.nil(M:Nat):Fit M []:=fun _ h=>by cases h
theorem Fit.tail(h:Fit M (b::B)):Fit M B:=fun a ha=>h a (List.mem_cons_of_mem _ ha)
theorem Zao:∀{B:List (List Nat)},Fit M B→∀{v:List Nat},smalls v→v.length≤M→smalls (reduceL B v)∧(reduceL B v).length≤M
 |[],_,v,hv,hl=>⟨hv,hl⟩
 |b::B,h,v,hv,hl=>by
  have hb:=h b List.mem_cons_self
  exact Zao h.tail (Zd1 hv hb.1) (Zhh v b M hl hb.2)
theorem ZbA:∀{B:List (List Nat)},Fit M B→∀{v:List Nat},smalls v→val (reduceL B v)=Ech.red (B.map val) (val v)
 |[],_,v,hv=>rfl
 |b::B,h,v,hv=>by
  have hb:=h b List.mem_cons_self
  show val (reduceL B (ZcP v b))=Ech.red (B.map val) _
  rw[ZbA h.tail (Zd1 hv hb.1),Zi8 hv hb.1]
theorem ZlT{v:List Nat}(h:k<B.length):reduceL (B.take (k+1)) v=ZcP (reduceL (B.take k) v) (B.getD k []):=by
 unfold reduceL
 rw[List.take_succ_eq_append_getElem h,List.foldl_append]
 simp[List.getD_eq_getElem?_getD,List.getElem?_eq_getElem h]
theorem Zpc{v:List Nat}(h:B.length≤k):reduceL (B.take k) v=reduceL B v:=by rw[List.take_of_length_le h]
def idxL(f:Int):List (List Nat)→Nat
 |[]=>0
 |b::B=>if f<firstI b then 0 else idxL f B+1
theorem Zmi(f:Int):∀B,idxL f B≤B.length
 |[]=>Nat.le_refl _
 |b::B=>by
  simp only[idxL]
  split
  ·exact Nat.zero_le _
  ·have:=Zmi f B;simp only[List.length_cons];omega
def Zgj(r:List Nat)(p:Nat)(C:List (List Nat)):List (List Nat):=C.take p++r::C.drop p
theorem ZdU(r:List Nat)(p:Nat)(C:List (List Nat))(h:p≤C.length):(Zgj r p C).length=C.length+1:=by
 simp[Zgj];omega
theorem Zru{p:Nat}{C:List (List Nat)}{x:List Nat}:x∈Zgj r p C↔x=r∨x∈C:=by
 unfold Zgj
 rw[List.mem_append,List.mem_cons]
 constructor
 ·rintro(h|h|h)
  ·exact .inr (List.mem_of_mem_take h)
  ·exact .inl h
  ·exact .inr (List.mem_of_mem_drop h)
 ·rintro(h|h)
  ·exact .inr (.inl h)
  ·rw[←List.take_append_drop p C,List.mem_append]at h
   rcases h with h|h
   ·exact .inl h
   ·exact .inr (.inr h)
theorem ZvI{a:List Nat}(ha:smalls a)(hb:smalls b)(h:val a≠0):firstI a<firstI b↔Ech.low (val a)<Ech.low (val b):=by
 rw[Zbz ha,Zbz hb,if_neg h]
 split
 ·rename_i h0
  rw[h0]
  have:Ech.low 0=0:=rfl
  omega
 ·omega
theorem Zt1(hr:smalls r)(h0:val r≠0):∀{C:List (List Nat)},Fit M C→(Zgj r (idxL (firstI r) C) C).map val=Ech.put (val r) (C.map val)
 |[],_=>rfl
 |c::C,h=>by
  have hc:=h c List.mem_cons_self
  have hl:=ZvI hr hc.1 h0
  simp only[idxL,List.map_cons,Ech.put]
  by_cases hlt:firstI r<firstI c
  ·rw[if_pos hlt,if_pos (hl.1 hlt)];rfl
  ·rw[if_neg hlt,if_neg (fun k=>hlt (hl.2 k)),←Zt1 hr h0 h.tail];rfl
def ZaH(B:List (List Nat))(v:List Nat):List (List Nat):=
 if firstI (reduceL B v)<0 then B else Zgj (reduceL B v) (idxL (firstI (reduceL B v)) (B.map fun b=>ZcP b (reduceL B v))) (B.map fun b=>ZcP b (reduceL B v))
def Zts(B:List (List Nat))(v:List Nat):List (List Nat):=
 if firstI (reduceL B v)<0 then B else Zgj (reduceL B v) (idxL (firstI (reduceL B v)) B) (B.map fun b=>ZcP b (reduceL B v))
theorem Fit.map(h:Fit M B){r:List Nat}(hr:smalls r)(hl:r.length≤M):Fit M (B.map fun b=>ZcP b r):=by
 intro x hx
 obtain⟨b,hb,rfl⟩:=List.mem_map.1 hx
 exact⟨Zd1 (h b hb).1 hr,Zhh b r M (h b hb).2 hl⟩
theorem Fit.insert(h:Fit M B){v:List Nat}(hv:smalls v)(hl:v.length≤M):Fit M (ZaH B v):=by
 obtain⟨h1,h2⟩:=Zao h hv hl
 unfold ZaH
 split
 ·exact h
 ·intro x hx
  rcases Zru.1 hx with e|hx
  ·rw[e];exact⟨h1,h2⟩
  ·exact h.map h1 h2 x hx
theorem ZjL(B:List (List Nat))(v:List Nat):(ZaH B v).length≤B.length+1:=by
 unfold ZaH
 split
 ·omega
 ·rw[ZdU _ _ _ (Zmi _ _),List.length_map];exact Nat.le_refl _
theorem ZyR(h:Fit M B){r:List Nat}(hr:smalls r)(h0:val r≠0):(B.map fun b=>ZcP b r).map val=(B.map val).map (Ech.upd (val r)):=by
 rw[List.map_map,List.map_map]
 apply List.map_congr_left
 intro b hb
 show val (ZcP b r)=Ech.upd (val r) (val b)
 rw[Zi8 (h b hb).1 hr]
 unfold Ech.upd
 by_cases hbit:(val b).testBit (Ech.low (val r))=true
 ·rw[if_pos ⟨h0,hbit⟩,if_pos hbit]
 ·rw[if_neg (fun k=>hbit k.2),if_neg hbit]
theorem Zqr(h:Fit M B){v:List Nat}(hv:smalls v)(hl:v.length≤M):(ZaH B v).map val=Ech.ins (B.map val) (val v):=by
 obtain⟨h1,h2⟩:=Zao h hv hl
 unfold ZaH Ech.ins
 rw[←ZbA h hv]
 by_cases h0:val (reduceL B v)=0
 ·rw[if_pos ((ZbO h1).2 h0),if_pos h0]
 ·rw[if_neg (fun k=>h0 ((ZbO h1).1 k)),if_neg h0,Zt1 h1 h0 (h.map h1 h2),ZyR h h1 h0]
theorem Zip(f:Int):∀{B C:List (List Nat)},B.map firstI=C.map firstI→idxL f B=idxL f C
 |[],[],_=>rfl
 |[],c::C,h=>by simp at h
 |b::B,[],h=>by simp at h
 |b::B,c::C,h=>by
  simp only[List.map_cons,List.cons.injEq]at h
  simp only[idxL,h.1,Zip f h.2]
theorem ZzC(h:Fit M B)(hR:Ech.Red (B.map val)){v:List Nat}(hv:smalls v)(hl:v.length≤M):Zts B v=ZaH B v:=by
 obtain⟨h1,h2⟩:=Zao h hv hl
 unfold Zts ZaH
 by_cases h0:firstI (reduceL B v)<0
 ·rw[if_pos h0,if_pos h0]
 ·rw[if_neg h0,if_neg h0]
  have h0':val (reduceL B v)≠0:=fun k=>h0 ((ZbO h1).2 k)
  rw[Zip (B:=B) (C:=B.map fun b=>ZcP b (reduceL B v))]
  rw[List.map_map]
  apply List.map_congr_left
  intro b hb
  show firstI b=firstI (ZcP b (reduceL B v))
  have hu:=Ech.upd_low hR (v:=val v) (b:=val b) (by rw[←ZbA h hv];exact h0') (List.mem_map.2 ⟨b,hb,rfl⟩)
  have he:val (ZcP b (reduceL B v))=Ech.upd (Ech.red (B.map val) (val v)) (val b):=by
   rw[←ZbA h hv,Zi8 (h b hb).1 h1]
   unfold Ech.upd
   by_cases hbit:(val b).testBit (Ech.low (val (reduceL B v)))=true
   ·rw[if_pos ⟨h0',hbit⟩,if_pos hbit]
   ·rw[if_neg (fun k=>hbit k.2),if_neg hbit]
  rw[Zbz (h b hb).1,Zbz (Zd1 (h b hb).1 h1),he,if_neg hu.2,hu.1,if_neg (hR.1 _ (List.mem_map.2 ⟨b,hb,rfl⟩))]
def ZaW(l:List (List Nat)):List (List Nat):=l.foldl ZaH []
theorem Zez:∀(l B:List (List Nat)),Fit M l→Fit M B→Ech.Red (B.map val)→Fit M (l.foldl ZaH B)∧(l.foldl ZaH B).map val=(l.map val).foldl Ech.ins (B.map val)∧l.foldl Zts B=l.foldl ZaH B∧(l.foldl ZaH B).length≤B.length+l.length
 |[],B,_,hB,_=>⟨hB,rfl,rfl,by simp⟩
 |v::l,B,hl,hB,hR=>by
  have hv:=hl v List.mem_cons_self
  have hi:=Zqr hB hv.1 hv.2
  obtain⟨h1,h2,h3,h4⟩:=Zez l (ZaH B v) hl.tail (hB.insert hv.1 hv.2) (by rw[hi];exact hR.ins _)
  refine⟨h1,?_,?_,?_⟩
  ·show(l.foldl ZaH (ZaH B v)).map val=_
   rw[h2,hi];rfl
  ·show l.foldl Zts (Zts B v)=l.foldl ZaH (ZaH B v)
   rw[ZzC hB hR hv.1 hv.2,h3]
  ·show(l.foldl ZaH (ZaH B v)).length≤_
   have:=ZjL B v
   simp only[List.length_cons]
   omega
theorem Zkx(h:Fit M l):Fit M (ZaW l):=(Zez l [] h (.nil M) .nil).1
theorem ZdJ(h:Fit M l):(ZaW l).map val=Ech.basis (l.map val):=(Zez l [] h (.nil M) .nil).2.1
theorem ZuF(h:Fit M l):Ech.Red ((ZaW l).map val):=by rw[ZdJ h];exact Ech.red_basis _
theorem Fit.take(h:Fit M B)(k:Nat):Fit M (B.take k):=fun b hb=>h b (List.mem_of_mem_take hb)
theorem ZoZ(h:k<l.length):ZaW (l.take (k+1))=ZaH (ZaW (l.take k)) (l.getD k []):=by
 unfold ZaW
 rw[List.take_succ_eq_append_getElem h,List.foldl_append]
 simp[List.getD_eq_getElem?_getD,List.getElem?_eq_getElem h]
theorem Fit.getD(h:Fit M B)(i:Nat):smalls (B.getD i [])∧(B.getD i []).length≤M:=by
 rw[List.getD_eq_getElem?_getD]
 cases hx:B[i]? with
 |none=>exact⟨smalls.nil,Nat.zero_le _⟩
 |some x=>exact h x (List.mem_of_getElem? hx)
theorem ZeI:Tryz.prog.underlying 32=some (.slice (Tryz.prog.elem 32)):=by kernel_rfl
theorem Zim:Tryz.prog.elem 32=69:=by kernel_rfl
theorem Zkl(a:Option Addr)(n c q:Nat)(hc:q≤c)(w:World):
  (Instr.sliceAt 32 (.slice a n c) none (some (.int .i64 (q:Int))) none).run Tryz.prog w=.ok (.slice a q c) w:=by
 have hz:∀w:World,(sizeOf 69).run Tryz.prog w=.ok 1 w:=fun w=>by kernel_rfl
 rw[run_sliceAt_slice _ _ _ _ _ _ ZeI,run_slice_h _ _ _ _ _ ZeI _ _ (by omega) (by omega),Zim,hz]
 cases a<;>simp[Result.andThen,sliced,Addr.add]
theorem RowAt.take(h:RowAt w a n xs){k:Nat}(hk:k≤n):RowAt w a k (xs.take k):=by
 refine⟨by rw[List.length_take,h.1];omega,fun x hx=>h.2.1 x (List.mem_of_mem_take hx),?_⟩
 rcases h.2.2 with h0|⟨b,off,rfl,hc⟩
 ·left;omega
 ·refine .inr ⟨b,off,rfl,fun i hi=>?_⟩
  rw[hc i (by omega),List.getD_eq_getElem?_getD,List.getD_eq_getElem?_getD,List.getElem?_take_of_lt hi]
def Turned(w w':World)(u v:Value):Prop:=w.grownBy w' u.ownBlock∧(v.ownBlock=u.ownBlock∨∀k,v.ownBlock=some k→w.heap.size≤k)
def Dis(u v:Value):Prop:=u.ownBlock=none∨u.ownBlock≠v.ownBlock
theorem Dis.symm(h:Dis u v):Dis v u:=by
 rcases h with h|h
 ·by_cases e:v.ownBlock=none
  ·exact .inl e
  ·exact .inr (by rw[h];exact e)
 ·exact .inr fun e=>h e.symm
theorem ZvV(B:Nat)(a:Option Addr)(c:Nat)(xs:List Nat)(a':Option Addr)(m c':Nat)(ys:List Nat)(w:World)(ho:Own w B (.slice a xs.length c) xs)(hB:B≤w.heap.size)(h':RowAt w a' m ys)
  (hap:m=0∨∀ad,a'=some ad→some ad.block≠(Value.slice a xs.length c).ownBlock) (hn:xs.length≤1048576) (hm:m≤1048576):
  Calls Tryz.prog 326 #[.slice a xs.length c,.slice a' m c'] w fun e w'=> ∃v,e=.returned v∧Own w' B v (xorL xs ys)∧Turned w w' (.slice a xs.length c) v:=by
 obtain rfl:m=ys.length:=h'.1.symm
 have hr:RowAt w a xs.length xs:=by
  obtain⟨a1,c1,e,hr⟩:=ho.row
  simp only[Value.slice.injEq]at e
  rw[e.1];exact hr
 by_cases hsw:xs.length<ys.length
 ·have hge:((xs.length:Int)<(ys.length:Int)):=by omega
  have HX:=hide (ZeC a xs.length c xs a' ys.length c' ys w hr h' hn hm)
  clear hr h' hap
  go_enter Tryz.func326,Tryz.ntmps326
  go_wp2_with (go_at_call 299;refine(unhide HX).mono ?_;rintro e w1 ⟨v,rfl,ho1,hb⟩)
  go_ret
  exact⟨_,rfl,ho1.mono hB,Zai hb _,.inr fun k hk=>(ho1.lt hk).1⟩
 ·have hge:¬((xs.length:Int)<(ys.length:Int)):=by omega
  go_enter Tryz.func326,Tryz.ntmps326
  go_wp2
  go_loopw [17] (fun i wr=> ∃k:Nat,k≤ys.length∧i=.int .i64 k∧Hid (Own wr B (.slice a xs.length c) (Zc3 xs ys k))∧Hid (w.grownBy wr (Value.slice a xs.length c).ownBlock)) (fun i _=>ys.length-(intOf i).toNat)
  case atStart=>exact⟨0,Nat.zero_le _,rfl,hide (by rw[ZcT];exact ho),hide (Zdw _ _)⟩
  case round=>
   obtain⟨k,hk,rfl,HO,HB⟩:=hrel
   by_cases hlt:k<ys.length
   ·obtain⟨b',off',rfl,hc'⟩:=(h'.kept (unhide HB) hap).at hlt
    have hkn:k<xs.length:=by omega
    obtain⟨g,cap,he,hBg,hgs,hcg,hfg⟩:=(unhide HO).at (by rw[Zac];omega)
    rw[Zac]at he
    simp only[Value.slice.injEq,true_and]at he
    obtain⟨rfl,rfl⟩:=he
    have hcell':=hc' k hlt
    have hcell:=hcg k (by rw[Zac];omega)
    have hfz:=hfg k
    rw[Zbl xs ys k k (by omega),if_neg (by omega)]at hcell
    have hxo:=u64_xor_nat (xs.getD k 0) (ys.getD k 0) (ho.1.get k) (h'.2.1.get k)
    have R:=hide (ZhH ho.1 h'.2.1 hkn hBg (unhide HO) (Below.refl B _)).1
    have RG:=hide (fun u=>gb_trans (unhide HB) (Zad _ g k u) (.inl rfl))
    generalize xs.getD k 0=x at*
    generalize ys.getD k 0=y at*
    clear hc' hcg hfg h' HO hr ho hap
    go_wp2
    go_roundw
    case rel=>exact⟨k+1,by omega,by go_num,R,hide (unhide RG _)⟩
    case measure=>simp[intOf];omega
   ·have hke:k=ys.length:=by omega
    subst hke
    rw[ZdS xs ys (by omega)]at HO
    clear hr h' hap ho
    go_wp2
    go_ret
    exact⟨_,rfl,unhide HO,unhide HB,.inl rfl⟩
theorem Zzw(w:World):RowAt w none 0 []:=⟨rfl,(fun _ h=>by cases h),.inl rfl⟩
theorem ZrC(a:List Nat):xorL a []=a:=by
 apply Za1
 ·rw[Zae];simp
 ·intro i _;rw[Zau];simp
theorem Zzm(a:Option Addr)(n c:Nat)(xs:List Nat)(w:World)(h:RowAt w a n xs)(hn:n≤1048576):
  Calls Tryz.prog 301 #[.slice a n c] w fun e w'=> ∃v,e=.returned v∧Own w' w.heap.size v xs∧Below w.heap.size w w':=by
 have hx:=ZeC a n c xs none 0 0 [] w h (Zzw w) hn (by omega)
 rw[ZrC]at hx
 have HX:=hide hx
 clear hx h
 go_enter Tryz.func301,Tryz.ntmps301
 go_wp2_with (go_at_call 299;refine(unhide HX).mono ?_;rintro e w1 ⟨v,rfl,ho1,hb⟩)
 go_ret
 exact⟨_,rfl,ho1,hb⟩
def ByAt(w:World)(lo p:Nat)(a:Option Addr)(n c:Nat):Prop:=lo≤p∧w.cell? ⟨p,0,none⟩=some (.slice a n c)
theorem ByAt.below{lo p:Nat}{c:Nat}(h:ByAt w lo p a n c)(hb:Below w.heap.size w w'):ByAt w' lo p a n c:=
 ⟨h.1,(hb.cell (World.block_lt_of_cell? w _ h.2)).trans h.2⟩
theorem ZAQ(a:Option Addr)(n c:Nat)(w:World):
  Calls Tryz.prog 302 #[.slice a n c] w fun e w'=>e=.returned (.func (.func 325) #[] #[.pointer (some ⟨w.heap.size,0,none⟩)])∧
   ByAt w' w.heap.size w.heap.size a n c∧Below w.heap.size w w':=by
 have hmf:∀(fn:Fn) (first cap:Array Value) (w:World),(Instr.makeFunc fn first cap).run Tryz.prog w=.ok (.func fn first cap) w:=fun _ _ _ _=>rfl
 go_enter Tryz.func302,Tryz.ntmps302
 go_wp2
 go_ret
 refine⟨rfl,⟨Nat.le_refl _,?_⟩,(Below.refl _ _).alloc (Nat.le_refl _) _⟩
 rw[World.cell?_alloc_at _ _ _ _ rfl];rfl
theorem Turned.after{w1 w2:World}(hb:Below w.heap.size w w1)(h:Turned w1 w2 u v):Turned w w2 u v:=
 ⟨gb_trans (Zai hb _) h.1 (.inl rfl),h.2.imp id fun k j hj=>Nat.le_trans hb.size (k j hj)⟩
theorem Turned.same(w:World)(u:Value):Turned w w u u:=⟨Zdw _ _,.inl rfl⟩
theorem Turned.below{B:Nat}(h:Turned w w' u v)(ho:Own w B u xs)(hB:B≤w.heap.size):Below B w w':=Zat h.1 hB fun k hk=>(ho.lt hk).1
theorem ZqY(xs:List Nat)(k j:Nat):getB (xs.take k) j=(decide (j<64*k)&&getB xs j):=by
 unfold getB
 rw[List.getD_eq_getElem?_getD,List.getD_eq_getElem?_getD,List.getElem?_take]
 by_cases h:j/64<k
 ·rw[if_pos h,show decide (j<64*k)=true by simp;omega];simp
 ·rw[if_neg h,show decide (j<64*k)=false by simp;omega];simp
theorem Zre{ys:List Nat}(hx:smalls xs)(hy:smalls ys){k:Nat}(hk:k=xs.length∨ys.length≤k):getI xs (firstI (ys.take k))=getI xs (firstI ys):=by
 rcases hk with rfl|hk
 ·have hz:smalls (ys.take xs.length):=fun x h=>hy x (List.mem_of_mem_take h)
  have hb:∀j,(val (ys.take xs.length)).testBit j=(decide (j<64*xs.length)&&(val ys).testBit j):=fun j=>by rw[ZaN hz,ZaN hy,ZqY]
  have hxo:∀j,64*xs.length≤j→(val xs).testBit j=false:=fun j hj=>by rw[ZaN hx,Zbn xs j hj]
  rw[ZjC hx hz,ZjC hx hy]
  by_cases h0:val (ys.take xs.length)=0
  ·rw[h0]
   by_cases h1:val ys=0
   ·rw[h1]
   ·have h2:64*xs.length≤Ech.low (val ys):=by
     rcases Nat.lt_or_ge (Ech.low (val ys)) (64*xs.length)with h3|h3
     ·have h4:=hb (Ech.low (val ys))
      rw[h0,Ech.low_bit h1,decide_eq_true h3]at h4
      simp at h4
     ·exact h3
    rw[hxo _ h2];simp
  ·have h1:=Ech.low_bit h0
   rw[hb]at h1
   have h2:Ech.low (val (ys.take xs.length))<64*xs.length:=by
    rcases Nat.lt_or_ge (Ech.low (val (ys.take xs.length))) (64*xs.length)with h3|h3
    ·exact h3
    ·rw[decide_eq_false (by omega)]at h1;simp at h1
   rw[decide_eq_true h2,Bool.true_and]at h1
   have h3:Ech.low (val ys)=Ech.low (val (ys.take xs.length)):=Ech.low_unique h1 fun j hj=>by
    have h4:=Ech.low_none h0 hj
    rw[hb,decide_eq_true (by omega),Bool.true_and]at h4
    exact h4
   rw[h3,decide_eq_true (Ech.ne_of_bit h1),decide_eq_true h0]
 ·rw[List.take_of_length_le hk]
theorem Zs3(B lo p:Nat)(a:Option Addr)(c:Nat)(xs:List Nat)(a':Option Addr)(m c':Nat)(ys:List Nat)(w:World)(ht:Tab w)(ho:Own w B (.slice a xs.length c) xs)(hB:B≤w.heap.size)(h':RowAt w a' m ys)
  (hby:ByAt w lo p a' m c') (hmc:m≤c') (hap:m=0∨∀ad,a'=some ad→some ad.block≠(Value.slice a xs.length c).ownBlock) (hn:xs.length≤1048576) (hm:m≤1048576):
  Calls Tryz.prog 325 #[.slice a xs.length c,.pointer (some ⟨p,0,none⟩)] w fun e w'=> ∃v,e=.returned v∧Own w' B v (ZcP xs ys)∧Turned w w' (.slice a xs.length c) v:=by
 have hr:RowAt w a xs.length xs:=by
  obtain⟨a1,c1,e,hr⟩:=ho.row
  simp only[Value.slice.injEq]at e
  rw[e.1];exact hr
 have hml:=h'.1
 obtain⟨k,hkm,hkx,hmin⟩:∃k:Nat,k≤m∧(k=xs.length∨ys.length≤k)∧(if (xs.length:Int)<(m:Int)then(xs.length:Int)else(m:Int))=(k:Int):=by
  by_cases hlt:xs.length<m
  ·exact⟨xs.length,by omega,.inl rfl,by rw[if_pos (by omega)]⟩
  ·exact⟨m,Nat.le_refl _,.inr (by omega),by rw[if_neg (by omega)]⟩
 have hmin2:∀(ts:Array TypeId) (t:TypeId) (w:World),(Builtin.min_ ts t #[.int .i64 (m:Int),.int .i64 (xs.length:Int)]).run Tryz.prog w=.ok (.int .i64 (k:Int)) w:=fun ts t w=>by rw[run_min_int2,hmin]
 clear hmin
 have hsl:=Zkl a' m c' k (by omega)
 have hcut:=Zre hr.2.1 h'.2.1 hkx
 have hrk:=h'.take hkm
 have hfl:=ZkU hrk.2.1
 rw[hrk.1]at hfl
 have HF:=hide (Zc0 a' k c' (ys.take k) w ht hrk (by omega))
 have HG:=hide (ZjE a xs.length c xs (firstI (ys.take k)) w hr hn (by omega))
 have hq:=hby.2
 have hE:ZcP xs ys=if getI xs (firstI ys)=true then xorL xs ys else xs:=rfl
 rw[←hcut]at hE
 clear hcut hrk hkx
 cases hget:getI xs (firstI (ys.take k))with
 |false=>
  rw[hget]at HG hE
  rw[if_neg (by decide)]at hE
  rw[hE]
  have HO:=hide ho
  clear ho h' hr hby hE hget hap
  generalize firstI (ys.take k)=f at*
  go_enter Tryz.func325,Tryz.ntmps325
  go_wp2_with fail
  refine(unhide HF).mono ?_
  rintro e w1 ⟨rfl,hw⟩
  obtain rfl:=hw.symm
  go_wp2_with (go_at_call 253;refine(unhide HG).mono ?_;rintro e w1 ⟨rfl,d,rfl⟩)
  go_ret
  have hb:Below w.heap.size w (w.drewN d):=below_drewN (Below.refl _ _) d
  exact⟨_,rfl,(unhide HO).below hb,(Turned.same _ _).after hb⟩
 |true=>
  rw[hget]at HG hE
  rw[if_pos rfl]at hE
  rw[hE]
  clear hE hget hr
  have HX:=hide (fun w1 (hb:Below w.heap.size w w1)=>ZvV B a c xs a' m c' ys w1 (ho.below hb) (Nat.le_trans hB hb.size) (h'.below hb) hap hn hm)
  have HP:=hide (fun w1 (hb:Below w.heap.size w w1)=>(hby.below hb).2)
  clear ho h' hby hap
  generalize firstI (ys.take k)=f at*
  go_enter Tryz.func325,Tryz.ntmps325
  go_wp2_with fail
  refine(unhide HF).mono ?_
  rintro e w1 ⟨rfl,hw⟩
  obtain rfl:=hw.symm
  go_wp2_with fail
  refine(unhide HG).mono ?_
  rintro e w1 ⟨rfl,d,hw⟩
  have hb:Below w.heap.size w w1:=by rw[hw];exact below_drewN (Below.refl _ _) d
  have hp:=unhide HP w1 hb
  have HX1:=hide (unhide HX w1 hb)
  have HB:=hide hb
  clear hw hb HX HP HG HF hq ht
  go_wp2_with (go_at_call 326;refine(unhide HX1).mono ?_;rintro e w2 ⟨v,rfl,ho2,ht2⟩)
  go_ret
  exact⟨_,rfl,ho2,ht2.after (unhide HB)⟩
def Caps(w:World)(a:Option Addr)(n:Nat):Prop:=∀b off i ai k ci,a=some ⟨b,off,none⟩→i<n→w.cell? ⟨b,off+i,none⟩=some (.slice ai k ci)→k≤ci
def VecsAt(w:World)(a:Option Addr)(n:Nat)(rs:List (List Nat)):Prop:=
 rs.length=n∧(n=0∨∃b off,a=some ⟨b,off,none⟩∧∀i,i<n→∃ai ci,w.cell? ⟨b,off+i,none⟩=some (.slice ai (rs.getD i []).length ci)∧RowAt w ai (rs.getD i []).length (rs.getD i []))∧Caps w a n
theorem VecsAt.cap{b off i ci:Nat}{ai:Option Addr}(h:VecsAt w (some ⟨b,off,none⟩) n rs)(hi:i<n)(hc:w.cell? ⟨b,off+i,none⟩=some (.slice ai k ci)):k≤ci:=h.2.2 b off i ai k ci rfl hi hc
theorem VecsAt.at(h:VecsAt w a n rs){i:Nat}(hi:i<n):
  ∃b off,a=some ⟨b,off,none⟩∧∀i,i<n→∃ai ci,w.cell? ⟨b,off+i,none⟩=some (.slice ai (rs.getD i []).length ci)∧RowAt w ai (rs.getD i []).length (rs.getD i []):=by
 rcases h.2.1 with h0|h0
 ·omega
 ·exact h0
theorem VecsAt.below(h:VecsAt w a n rs)(hb:Below w.heap.size w w'):VecsAt w' a n rs:=by
 refine⟨h.1,?_,fun b off i ai k ci e hi hc=>?_⟩
 ·rcases h.2.1 with h0|⟨b,off,rfl,hc⟩
  ·exact .inl h0
  ·refine .inr ⟨b,off,rfl,fun i hi=>?_⟩
   obtain⟨ai,ci,h1,h2⟩:=hc i hi
   exact⟨ai,ci,(hb.cell (World.block_lt_of_cell? w _ h1)).trans h1,h2.below hb⟩
 ·obtain⟨b2,off2,e2,hc2⟩:=h.at hi
  rw[e]at e2
  simp only[Option.some.injEq,Addr.mk.injEq,and_true]at e2
  obtain⟨rfl,rfl⟩:=e2
  obtain⟨a2,c2,h1,h2⟩:=hc2 i hi
  have h3:=(hb.cell (World.block_lt_of_cell? w _ h1)).trans h1
  exact h.2.2 b off i ai k ci e hi (by rw[h1,←h3,hc])
theorem Zfr(a:Option Addr)(n c:Nat)(rs:List (List Nat))(a':Option Addr)(m c':Nat)(xs:List Nat)(w:World)(ht:Tab w)(h:VecsAt w a n rs)(hf:Fit 1048576 rs)(h':RowAt w a' m xs)(hn:n≤1048576)(hm:m≤1048576):
  Calls Tryz.prog 266 #[.slice a n c,.slice a' m c'] w fun e w'=> ∃v,e=.returned v∧Own w' w.heap.size v (reduceL rs xs)∧Below w.heap.size w w':=by
 have hmf:∀(fn:Fn) (first cap:Array Value) (w:World),(Instr.makeFunc fn first cap).run Tryz.prog w=.ok (.func fn first cap) w:=fun _ _ _ _=>rfl
 obtain rfl:m=xs.length:=h'.1.symm
 have HOW:=hide (Zzm a' _ c' xs w h' hm)
 have hxs:=h'.2.1
 clear h'
 go_enter Tryz.func266,Tryz.ntmps266
 go_wp2_with fail
 refine(unhide HOW).mono ?_
 rintro e w1 ⟨v,rfl,ho,hb⟩
 obtain⟨a1,c1,rfl,_⟩:=ho.row
 go_wp2
 go_loopw [5,12] (fun r i wr=> ∃k:Nat,k≤n∧i=.int .i64 k∧∃a1 c1,r=.slice a1 (reduceL (rs.take k) xs).length c1∧Hid (Own wr w.heap.size (.slice a1 (reduceL (rs.take k) xs).length c1) (reduceL (rs.take k) xs))∧Hid (Below w.heap.size w wr)) (fun _ i _=>n-(intOf i).toNat)
 case atStart=>exact⟨0,Nat.zero_le _,rfl,a1,c1,rfl,hide ho,hide hb⟩
 case round=>
  obtain⟨k,hk,rfl,a2,c2,rfl,HO,HB⟩:=hrel
  clear ho hb HOW
  by_cases hlt:k<n
  ·have hB:=unhide HB
   obtain⟨b,off,rfl,hc⟩:=(h.below hB).at hlt
   obtain⟨ai,ci,hcell,hrow⟩:=hc k hlt
   have hrow0:RowAt w ai (rs.getD k []).length (rs.getD k []):=by
    obtain⟨b2,off2,e2,hc2⟩:=h.at hlt
    simp only[Option.some.injEq,Addr.mk.injEq,and_true]at e2
    obtain⟨rfl,rfl⟩:=e2
    obtain⟨ai2,ci2,g1,g2⟩:=hc2 k hlt
    have:=(hB.cell (World.block_lt_of_cell? w _ g1)).trans g1
    rw[hcell]at this
    simp only[Option.some.injEq,Value.slice.injEq,true_and]at this
    rw[this.1];exact g2
   have hlk:=(hf.getD k).2
   have hrs:=Zao (hf.take k) hxs hm
   have HE:=hide (ZlT (v:=xs) (show k<rs.length by rw[h.1];exact hlt))
   have hcap:=(h.below hB).cap hlt hcell
   have HBY:=hide (ZAQ ai (rs.getD k []).length ci wr)
   have hlo:=hrow0.lt
   have HR:=hide hrow
   clear hc hrow hrow0 h
   generalize rs.getD k []=y at*
   generalize reduceL (rs.take k) xs=r at*
   go_wp2_with fail
   refine(unhide HBY).mono ?_
   rintro e w2 ⟨rfl,hby,hb2⟩
   have ho2:=(unhide HO).below hb2
   have hB2:=below0 hB hb2
   have HS:=hide (Zs3 w.heap.size _ _ a2 c2 r ai y.length ci y w2 (ht.below hB2) ho2 hB2.size ((unhide HR).below hb2) hby hcap (hlo.imp id fun hlo ad e e2=>by have:=hlo ad e;have:=(ho2.lt e2.symm).1;omega) hrs.2 hlk)
   have HO2:=hide ho2
   have HB2:=hide hB2
   clear hby hb2 ho2 hB2 HO HB HBY HR hB
   go_wp2_with fail
   refine(unhide HS).mono ?_
   rintro e w3 ⟨v,rfl,ho3,ht3⟩
   have hB3:=(unhide HB2).trans (ht3.below (unhide HO2) (unhide HB2).size)
   obtain⟨a3,c3,rfl,_⟩:=ho3.row
   rw[←unhide HE]
   rw[←unhide HE]at ho3
   have HO3:=hide ho3
   have HB3:=hide hB3
   clear ho3 hB3 ht3 HS HO2 HB2
   go_wp2
   go_roundw
   case rel=>exact⟨k+1,by omega,by go_num,a3,c3,rfl,HO3,HB3⟩
   case measure=>simp[intOf];omega
  ·have hke:reduceL (rs.take k) xs=reduceL rs xs:=Zpc (by rw[h.1];omega)
   rw[hke]at HO
   rw[hke]
   clear h hke
   go_wp2
   go_ret
   exact⟨_,rfl,unhide HO,unhide HB⟩
end Go.Proofs.YtlhhinlghhjghaaGreatDoor
