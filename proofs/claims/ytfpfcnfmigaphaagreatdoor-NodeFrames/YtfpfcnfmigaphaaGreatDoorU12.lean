/-
  Laws that the proof stands on.
-/
import Derived.Test.YtfpfcnfmigaphaaGreatDoorU11
import Derived.Conc.LoneSelectN
namespace Go.Proofs.YtfpfcnfmigaphaaGreatDoor
open Go.RowKit Go.Conc
set_option linter.unusedVariables false
set_option linter.unusedSimpArgs false
set_option maxRecDepth 4000
set_option maxHeartbeats 8000000
variable {ov:Bool}{k z:Int}{rs:List RV}{cs:List Value}{g B gs m:Nat}{T:TypeId}{v:Value}{w w':World}
def BkA(T:TypeId)(w:World)(g:Nat)(cs:List Value):Prop:=w.heap[g]? =some (.cells cs.toArray T (0,0))
theorem AV(T:TypeId)(w:World)(cs:List Value):BkA T (w.alloc (.cells cs.toArray T)) w.heap.size cs:=by
 show(w.heap.push _)[w.heap.size]? =_;simp
theorem BkA.lt(h:BkA T w g cs):g<w.heap.size:=(Array.getElem?_eq_some_iff.1 h).1
theorem BkA.belowB(h:BkA T w g cs)(a:Below B w w')(b:g<B):BkA T w' g cs:=(a.block g b).trans h
theorem BkA.below(h:BkA T w g cs)(a:Below w.heap.size w w'):BkA T w' g cs:=h.belowB a h.lt
theorem BkA.at(h:BkA T w g cs)(i:Nat){v:Value}(a:cs[i]? =some v):w.cell? ⟨g,i,none⟩=some v:=by
 unfold BkA at h;rw[cell_of_row w g _ _ _ _ h];simpa using a
theorem BkA.frz(h:BkA T w g cs)(i:Nat):w.frozen? ⟨g,i,none⟩=false:=by
 unfold BkA at h;simp[World.frozen?,h]
theorem BkA.set(h:BkA T w g cs)(i:Nat)(v:Value):BkA T (w.setCell ⟨g,i,none⟩ v) g (cs.set i v):=by
 have:=heap_setCell_same w g i _ _ v h;rw[List.setIfInBounds_toArray]at this;exact this
theorem BkA.kept{row:Option Nat}(h:BkA T w g cs)(b:w.grownBy w' row)(a:some g≠row):BkA T w' g cs:=(b.block g h.lt a).trans h
theorem BkA.tu{F:Nat->Prop}(h:BkA T w g cs)(ht:Tu F w w')(a:¬F g):BkA T w' g cs:=(ht.block g h.lt a).trans h
theorem BkA.ne{d:TypeId}{g':Nat}{a:Array Value}{f:Nat×Nat}(h:BkA T w g cs)(b:w.heap[g']? =some (.cells a d f))(i:T≠d):g≠g':=fun e=>by
 subst e;unfold BkA at h;rw[h]at b;simp only[Option.some.injEq,Obj.cells.injEq]at b;exact i b.2.1
theorem BkA.neS(h:BkA T w g cs)(f:Al w B v rs)(b:T≠57):v.ownBlock≠some g:=fun e=>by
 obtain⟨a,d⟩:=f.blk5 e;exact h.ne d b rfl
theorem BkA.neSt(h:BkA T w g cs)(b:As w gs B k z m v rs ov)(a:T≠255):g≠gs:=h.ne b.blk a
theorem BkA.outSt(h:BkA T w g cs)(b:As w gs B k z m v rs ov)(e:T≠255)(d:T≠57):¬C2 gs v g:=fun a=>by
 rcases a with a|a
 ·exact h.neSt b e a
 ·exact h.neS b.own d a
theorem Bt(w:World)(g i:Nat)(u:Value):Tu (fun j=>j=g) w (w.setCell ⟨g,i,none⟩ u):=Tu.of_gb (Bx _ _ _ _) fun j _ e=>(Option.some.inj e).symm
theorem As.sets(a:As w gs B k z m v rs ov)(h:BkA T w g cs)(ht:Tu (fun j=>j=g) w w')(b:T≠255)(f:T≠57)(i:T≠69):As w' gs B k z m v rs ov:=
 ⟨a.blk.tu ht (fun e=>h.neSt a b e.symm),a.lo,a.own.tu ht (fun j n e=>h.outSt a b f (e▸ .inr n)),a.rows.tu ht (fun j d l e=>h.ne l i e.symm),a.le,a.most,a.short⟩
theorem BkA.setAll{us:List Value}(h:BkA T w g cs)(i:us.length=cs.length):BkA T (w.setCells g 0 us) g us:=by
 obtain⟨a,d,e,f⟩:=Iq g T us 0 w cs.toArray h;unfold BkA;rw[d];have:a=us.toArray:=by
  apply Array.ext_getElem?;intro j;by_cases b:j<cs.length
  ·rw[f j (by simpa using b),if_pos (by omega)];simp
  ·rw[Array.getElem?_eq_none (by rw[e];simpa using b),Array.getElem?_eq_none (by simp;omega)]
 rw[this]
def capN(n:Int):Nat:=min (max n 0).toNat 256
theorem Jq(n:Int):capN n<=256:=Nat.min_le_right _ _
theorem Xp(n:Int):min (max n 0) 256=(capN n:Int):=by unfold capN;omega
theorem Mm(n:Int)(a:Array TypeId)(t:TypeId)(w:World):(Builtin.max_ a t #[.int .i64 n,.int .i64 0]).run Tryz.prog w=.ok (.int .i64 (max n 0)) w:=by
 rw[run_max_int2];congr 2;split<;>omega
theorem L6(n:Int)(a:Array TypeId)(t:TypeId)(w:World):(Builtin.min_ a t #[.int .i64 (max n 0),.int .i64 256]).run Tryz.prog w=.ok (.int .i64 (capN n:Int)) w:=by
 rw[run_min_int2,<-Xp];congr 2;split<;>omega
variable {L:List ByteArray}{g c m lo:Nat}{w w':World}
structure AH(w:World)(g c m:Nat)(L:List ByteArray)(lo:Nat):Prop where
 blk:BkA 250 w g [.chan (some c),.int .i64 (lo:Int)]
 chn:∃s r,w.heap[c]? =some (.chan m (BD L).toArray false s r false)
 len:L.length<=m
 most:m<=256
def quF(g c:Nat)(j:Nat):Prop:=j=g\/j=c
theorem AH.lt(h:AH w g c m L lo):g<w.heap.size/\c<w.heap.size:=by
 obtain⟨s,r,a⟩:=h.chn;exact⟨h.blk.lt,(Array.getElem?_eq_some_iff.1 a).1⟩
theorem AH.tu{F:Nat->Prop}(h:AH w g c m L lo)(ht:Tu F w w')(b:¬F g)(a:¬F c):AH w' g c m L lo:=by
 obtain⟨s,r,d⟩:=h.chn;exact⟨h.blk.tu ht b,⟨s,r,(ht.block c h.lt.2 a).trans d⟩,h.len,h.most⟩
theorem AH.below(h:AH w g c m L lo)(a:Below w.heap.size w w'):AH w' g c m L lo:=
 h.tu (F:=fun _=>False) (Tu.of_below a) id id
theorem AH.belowB{B:Nat}(h:AH w g c m L lo)(a:Below B w w')(d:g<B)(b:c<B):AH w' g c m L lo:=by
 obtain⟨s,r,e⟩:=h.chn;exact⟨h.blk.belowB a d,⟨s,r,(a.block c b).trans e⟩,h.len,h.most⟩
theorem AH.ne(h:AH w g c m L lo):g≠c:=fun e=>by
 obtain⟨s,r,a⟩:=h.chn;have:=h.blk;unfold BkA at this;rw[e,a]at this;cases this
theorem AH.apart{g' b i a:Nat}{L':List ByteArray}(h:AH w g c m L lo)(d:AH w g' b i L' a):g≠b:=fun e=>by
 obtain⟨s,r,f⟩:=d.chn;have:=h.blk;unfold BkA at this;rw[e,f]at this;cases this
theorem O5(w:World)(c cap:Nat)(buf:Array Value)(a:Bool)(s r:Nat)(tm:Bool):Tu (fun j=>j=c) w (w.setChan c cap buf a s r tm):=
 ⟨rfl,rfl,rfl,by rw[size_setChan];exact Nat.le_refl _,fun k _ b=>by simp only[World.setChan];rw[Array.getElem?_setIfInBounds_ne (fun e=>b e.symm)]⟩
theorem Tu.wide{F G:Nat->Prop}(h:Tu F w w')(e:∀j,F j->G j):Tu G w w':=⟨h.os,h.tape,h.output,h.size,fun k b d=>h.block k b fun a=>d (e k a)⟩
theorem AH.chan{L':List ByteArray}(h:AH w g c m L lo)(a:L'.length<=m)(s r:Nat):AH (w.setChan c m (BD L').toArray false s r false) g c m L' lo:=
 ⟨h.blk.tu (O5 _ _ _ _ _ _ _ _) h.ne,⟨s,r,heap_setChan _ _ _ _ _ _ _ _ h.lt.2⟩,a,h.most⟩
theorem AH.lost(h:AH w g c m L lo)(a:Nat):AH (w.setCell ⟨g,1,none⟩ (.int .i64 (a:Int))) g c m L a:=by
 obtain⟨s,r,b⟩:=h.chn;exact⟨h.blk.set 1 _,⟨s,r,((Bt w g 1 _).block c h.lt.2 (fun e=>h.ne e.symm)).trans b⟩,h.len,h.most⟩
theorem JP(L:List ByteArray):(BD L).toArray.size=L.length:=by rw[List.size_toArray,bC]
theorem jd(n:Int)(w:World):(Instr.makeChan 248 (.int .i64 (capN n:Int))).run Tryz.prog w=.ok (.chan (some w.heap.size)) (w.alloc (.chan (capN n) #[] false 0 0 false)):=by
 obtain⟨f,b,d,e,a⟩:=info_parts LC;have:=Jq n;exact run_makeChan (P:=Tryz.prog) (w:=w) Tryz.underlying248 b .i64 (capN n) (by omega) (by rw[a];omega)
theorem lD(n:Int)(w:World):
  Calls Tryz.prog 121 #[.int .i64 n] w fun e w'=> ∃g c,e=.returned (.pointer (some ⟨g,0,none⟩))/\w.heap.size<=g/\w.heap.size<=c/\AH w' g c (capN n) [] 0/\Below w.heap.size w w':=by
 have d:=Mm n;have f:=L6 n;have h:=jd n;have b:=Jq n;generalize capN n=m at*;go_enter Tryz.func121,Tryz.ntmps121;go_wp2;go_ret
 have a:Below w.heap.size w ((w.alloc (.chan m #[] false 0 0 false)).alloc (.cells #[.chan (some w.heap.size),.int .i64 0] 250)):=
  ((Below.refl _ _).alloc (Nat.le_refl _) _).trans (((Below.refl _ _).alloc (Nat.le_refl _) _).mono (by simp))
 refine⟨_,w.heap.size,rfl,by simp,Nat.le_refl _,⟨?_,⟨0,0,?_⟩,Nat.zero_le _,b⟩,a⟩
 ·have:=AV 250 (w.alloc (.chan m #[] false 0 0 false)) [.chan (some w.heap.size),.int .i64 0]
  simpa using this
 ·rw[Below.heap_alloc _ _ _ (by simp)]
  exact heap_alloc_new w _
theorem Lt(g c m lo:Nat)(L:List ByteArray)(w:World)(h:AH w g c m L lo):Calls Tryz.prog 146 #[.pointer (some ⟨g,0,none⟩)] w fun e w'=>e=.returned (.int .i64 (L.length:Int))/\w'=w:=by
 have d:=h.blk.at 0 rfl;obtain⟨s,r,a⟩:=h.chn;have b:=run_len_chan (P:=Tryz.prog) (w:=w) 248 3 Tryz.underlying248 a;rw[JP]at b;generalize L.length=n at*;clear a h;go_enter Tryz.func146,Tryz.ntmps146;go_wp2;go_ret;exact⟨rfl,rfl⟩
theorem cG(L:List ByteArray)(s:ByteArray):(BD L).toArray.push (.string s)=(BD (L++[s])).toArray:=by simp[BD]
theorem fH(s:ByteArray)(L:List ByteArray):(BD (s::L)).toArray.extract 1 (BD (s::L)).toArray.size=(BD L).toArray:=by
 simp[BD,List.take_of_length_le]
theorem lE (g c m lo : Nat) (L : List ByteArray) (s : ByteArray) (w : World) (h : AH w g c m L lo) (l : s.size <= 1048576) (u : L.length < m) :
    Calls Tryz.prog 83 #[.pointer (some ⟨g, 0, none⟩), .string s] w fun e w' => e = .returned (.bool true) /\ AH w' g c m (L ++ [s]) lo /\ Tu (quF g c) w w' := by
  have x := h.blk.at 0 rfl;have H := Ab h;have p := Ab l;clear h l;refine MY Tryz.func83 rfl (fun _ h => by cases h.1) ?_
  simp only [Tryz.ntmps83, List.size_toArray, List.length_cons, List.length_nil, Nat.reduceAdd, Nat.reduceSub, Array.replicate_succ,
     Array.replicate_zero, List.push_toArray, List.append_toArray, List.nil_append, List.cons_append]
  refine Gz (fun K f => ?_);go_wp2;refine Gz (fun K f => ?_);go_wp2;refine Gz (fun K f => ?_)
  go_wp2_with (first
    | (go_at_call 89; refine (GB _ _ (Aa p)).mono ?_; rintro e w1 ⟨rfl, a⟩; have d := Ab a; clear a)
    | fail)
  have b := Ab ((Aa H).below (Aa d));obtain ⟨n, r, i⟩ := (Aa b).chn;refine Mc (Ob rfl (aV (z := .string ⟨#[]⟩) (v := .string s) (c := c) (by simp [go_sem, execOp, scase, Act.eval]) i (by rw [JP]; exact u)) ?_);rw [cG];have o := Ab ((Aa b).chan (L' := L ++ [s]) (by rw [List.length_append, List.length_singleton]; omega) (n + 1) r);have q := Ab (Tu.after (Aa d) ((O5 w1 c m (BD (L ++ [s])).toArray false (n + 1) r false).wide (G := quF g c) fun j e => .inr e));clear i;generalize w1.setChan c m (BD (L ++ [s])).toArray false (n + 1) r false = w2 at *;go_wp2;refine MA ?_;go_wp2;go_ret;exact ⟨rfl, Aa o, Aa q⟩
theorem oT (g c m lo : Nat) (L : List ByteArray) (s : ByteArray) (w : World) (h : AH w g c m L lo) (o : s.size <= 1048576) (u : m <= L.length) (q : lo <= 1099511627776) :
    Calls Tryz.prog 83 #[.pointer (some ⟨g, 0, none⟩), .string s] w fun e w' => e = .returned (.bool false) /\ AH w' g c m L (lo + 1) /\ Tu (quF g c) w w' := by
  have x := h.blk.at 0 rfl;have H := Ab h;have p := Ab o;clear h o;refine MY Tryz.func83 rfl (fun _ h => by cases h.1) ?_
  simp only [Tryz.ntmps83, List.size_toArray, List.length_cons, List.length_nil, Nat.reduceAdd, Nat.reduceSub, Array.replicate_succ,
     Array.replicate_zero, List.push_toArray, List.append_toArray, List.nil_append, List.cons_append]
  refine Gz (fun K i => ?_);go_wp2;refine Gz (fun K i => ?_);go_wp2;refine Gz (fun K i => ?_)
  go_wp2_with (first
    | (go_at_call 89; refine (GB _ _ (Aa p)).mono ?_; rintro e w1 ⟨rfl, a⟩; have d := Ab a; clear a)
    | fail)
  have b := Ab ((Aa H).below (Aa d));obtain ⟨n, r, l⟩ := (Aa b).chn;refine Mc (Ob rfl (aU (z := .string ⟨#[]⟩) (v := .string s) (c := c) (by simp [go_sem, execOp, scase, Act.eval]) l (by rw [JP]; exact u)) ?_);clear l;go_wp2;refine MA ?_;have y := (Aa b).blk.at 1 rfl;have A := (Aa b).blk.frz 1;have C : IntKind.i64.wrap ((lo : Int) + 1) = (lo : Int) + 1 := by rw [IntKind.wrap_i64]; omega
  go_wp2;go_ret;have f := (Aa b).lost (lo + 1);rw [Int.natCast_add] at f;exact ⟨rfl, f, Tu.after (Aa d) ((Bt w1 g 1 _).wide (G := quF g c) fun j e => .inl e)⟩
theorem fl (g c m lo : Nat) (s : ByteArray) (L : List ByteArray) (w : World) (h : AH w g c m (s :: L) lo) :
    Calls Tryz.prog 113 #[.pointer (some ⟨g, 0, none⟩)] w fun e w' => e = .returned (.tuple #[.string s, .bool true]) /\ AH w' g c m L lo /\ Tu (quF g c) w w' := by
  have l := h.blk.at 0 rfl;have H := Ab h;clear h;refine MY Tryz.func113 rfl (fun _ h => by cases h.1) ?_
  simp only [Tryz.ntmps113, List.size_toArray, List.length_cons, List.length_nil, Nat.reduceAdd, Nat.reduceSub, Array.replicate_succ,
     Array.replicate_zero, List.push_toArray, List.append_toArray, List.nil_append, List.cons_append]
  refine Gz (fun K a => ?_);go_wp2;refine Gz (fun K a => ?_);go_wp2;refine Gz (fun K a => ?_);go_wp2;obtain ⟨n, r, b⟩ := (Aa H).chn;refine Mc (Ob rfl (aT (z := .string ⟨#[]⟩) (c := c) (by simp [go_sem, execOp, rcase, Act.eval]) b (by rw [JP]; exact Nat.succ_pos _)) ?_);rw [fH];have d : (BD (s :: L)).toArray.getD 0 undef = .string s := by simp [BD]
  rw [d];have f := Ab ((Aa H).chan (L' := L) (by have := (Aa H).len; rw [List.length_cons] at this; omega) n (r + 1));have i := Ab ((O5 w c m (BD L).toArray false n (r + 1) false).wide (G := quF g c) fun j e => .inr e);clear b d;generalize w.setChan c m (BD L).toArray false n (r + 1) false = w2 at *;go_wp2;refine MA ?_;go_wp2;go_ret2;exact ⟨rfl, Aa f, Aa i⟩
def WJ(w:World)(c:Nat):Nat:=match w.heap[c]? with
 |some (.chan _ b _ _ _ _)=>b.size
 |_=>0
theorem AH.lenOf(h:AH w g c m L lo):WJ w c=L.length:=by
 obtain⟨s,r,a⟩:=h.chn;unfold WJ;rw[a];exact JP L
variable {M T L:Int}
def Bq(x a b:Int):Int:=min (max x a) b
theorem Mz(x:Int){a b:Int}(h:a<=b):a<=Bq x a b/\Bq x a b<=b:=by unfold Bq;omega
theorem Zy{x a b:Int}(d:a<=x)(e:x<=b):Bq x a b=x:=by unfold Bq;omega
structure BC(w:World)(g:Nat)(M T L:Int):Prop where
 blk:BkA 252 w g [.int .i64 M,.int .i64 T,.int .i64 L]
 mil:0<=M/\M<=1000000
 top:1000<=T/\T<=256000
 lev:0<=L/\L<=T
theorem BC.below{w w':World}{g:Nat}(h:BC w g M T L)(a:Below w.heap.size w w'):BC w' g M T L:=⟨h.blk.below a,h.mil,h.top,h.lev⟩
theorem BC.tu{F:Nat->Prop}{w w':World}{g:Nat}(h:BC w g M T L)(ht:Tu F w w')(a:¬F g):BC w' g M T L:=⟨h.blk.tu ht a,h.mil,h.top,h.lev⟩
def GV(M T L n:Int):Int:=min (L+Bq n 0 1048576*M) T
theorem pt(n:Int)(a:0<=M)(d:0<=T)(b:0<=L):0<=GV M T L n/\GV M T L n<=T:=by
 have:=Mz n (show(0:Int)<=1048576 by decide);have:=Int.mul_nonneg this.1 a;unfold GV;omega
theorem M3(x a b:Int)(w:World):Calls Tryz.prog 144 #[.int .i64 x,.int .i64 a,.int .i64 b] w fun e w'=>e=.returned (.int .i64 (Bq x a b))/\w'=w:=by
 have f:=Ko x a;have d:=Kp (max x a) b;unfold Bq;generalize max x a=m at*;generalize min m b=n at*;go_enter Tryz.func144,Tryz.ntmps144;go_wp2;go_ret;exact⟨rfl,rfl⟩
theorem ja(m k:Int)(w:World):
  Calls Tryz.prog 173 #[.int .i64 m,.int .i64 k] w fun e w'=>e=.returned (.pointer (some ⟨w.heap.size,0,none⟩))/\BC w' w.heap.size (Bq m 0 1000000) (1000*Bq k 1 256) (1000*Bq k 1 256)/\Below w.heap.size w w':=by
 have i:=Mz k (show(1:Int)<=256 by decide);have h:=Mz m (show(0:Int)<=1000000 by decide);have b:Hid True:=Ab trivial;have d:=M3 k 1 256;have f:=M3 m 0 1000000;generalize Bq k 1 256=x at*;generalize Bq m 0 1000000=y at*;go_enter Tryz.func173,Tryz.ntmps173
 go_wp2_with (first
  |(clear b;go_at_call 144;refine(d _).mono ?_;rintro e w1 ⟨rfl,a⟩;obtain rfl:=a.symm;clear a)
  |(go_at_call 144;refine(f _).mono ?_;rintro e w1 ⟨rfl,a⟩;obtain rfl:=a.symm;clear a)
  |fail)
 go_ret;exact⟨rfl,⟨AV 252 _ [.int .i64 y,.int .i64 (1000*x),.int .i64 (1000*x)],h,by omega,by omega⟩,AB _ _⟩
theorem kx(g:Nat)(M T L:Int)(w:World)(h:BC w g M T L)(b:L<1000):Calls Tryz.prog 167 #[.pointer (some ⟨g,0,none⟩)] w fun e w'=>e=.returned (.bool false)/\w'=w:=by
 have a:=h.blk.at 2 rfl;go_enter Tryz.func167,Tryz.ntmps167;go_wp2;go_ret;exact⟨rfl,rfl⟩
theorem gj(g:Nat)(M T L:Int)(w:World)(h:BC w g M T L)(f:1000<=L):Calls Tryz.prog 167 #[.pointer (some ⟨g,0,none⟩)] w fun e w'=>e=.returned (.bool true)/\BC w' g M T (L-1000)/\Tu (fun j=>j=g) w w':=by
 have a:=h.blk.at 2 rfl;have d:=h.blk.frz 2;have b:=h.lev;have ht:=h.top;have H:=Ab h;clear h;go_enter Tryz.func167,Tryz.ntmps167;go_wp2;go_ret;exact⟨rfl,⟨(Aa H).blk.set 2 _,(Aa H).mil,ht,by omega⟩,Bt _ _ _ _⟩
theorem oI(m k:Int)(w:World):
  Calls Tryz.prog 173 #[.int .i64 m,.int .i64 k] w fun e w'=> ∃g,e=.returned (.pointer (some ⟨g,0,none⟩))/\w.heap.size<=g/\BC w' g (Bq m 0 1000000) (1000*Bq k 1 256) (1000*Bq k 1 256)/\Below w.heap.size w w':=
 (ja m k w).mono fun e w' ⟨a,b,d⟩=>⟨_,a,Nat.le_refl _,b,d⟩
theorem Zc(w:World)(g i:Nat)(u:Value):Tu (fun j=>j=g) w (w.setCell ⟨g,i,none⟩ u).drew:=Tu.of_gb (Mg (Bx _ _ _ _)) fun j _ e=>(Option.some.inj e).symm
theorem fa(g:Nat)(M T L n:Int)(w:World)(h:BC w g M T L):
  Calls Tryz.prog 84 #[.pointer (some ⟨g,0,none⟩),.int .i64 n] w fun e w'=>e=.returned (.tuple #[])/\BC w' g M T (GV M T L n)/\Tu (fun j=>j=g) w w':=by
 have s:=h.blk.at 0 rfl;have u:=h.blk.at 1 rfl;have x:=h.blk.at 2 rfl;have y:=h.blk.frz 2;have l:=h.lev;have ht:=h.top;have b:=h.mil;have i:=M3 n 0 1048576;have f:=Mz n (show(0:Int)<=1048576 by decide);have o:=pt n b.1 (by omega:0<=T) l.1;have d:=Kp (L+Bq n 0 1048576*M) T;rw[show min (L+Bq n 0 1048576*M) T=GV M T L n from rfl]at d;generalize GV M T L n=Z at*;generalize Bq n 0 1048576=N at*;have p:0<=N*M:=Int.mul_nonneg f.1 b.1;have q:N*M<=1048576*1000000:=Int.mul_le_mul f.2 b.2 b.1 (by decide);have a:IntKind.i64.wrap (N*M)=N*M:=by rw[IntKind.wrap_i64];omega
 have r:IntKind.i64.wrap (L+N*M)=L+N*M:=by rw[IntKind.wrap_i64];omega
 have H:=Ab h;clear h;go_enter Tryz.func84,Tryz.ntmps84;go_wp2_with fail
 go_region_law (first
  |(go_simp;go_at_call 144;refine(i _).mono ?_;rintro e w1 ⟨rfl,a⟩;obtain rfl:=a.symm;clear a))
 all_goals go_wp2
 all_goals go_end0
 all_goals exact⟨rfl,⟨(Aa H).blk.set 2 _,b,ht,o⟩,Zc _ _ _ _⟩
def DY(x:Nat):Nat:=if x<4503599627370496 then x else 4503599627370496+x%4503599627370496
def exF(x:Nat):Nat:=if x<4503599627370496 then 0 else x/4503599627370496-1
theorem PA:Ieee.double.signWeight=9223372036854775808:=rfl
theorem KP:Ieee.double.binade=4503599627370496:=rfl
theorem KQ:Ieee.double.infRung=9218868437227405312:=rfl
theorem Kx:Ieee.double.leastPlace= -1074:=rfl
theorem Ht(x:Nat)(h:x<9218868437227405312):Ieee.double.read x=.number false (DY x) (-1074+(exF x:Int)):=by
 have b:x/9223372036854775808%2=0:=by omega
 have d:x%9223372036854775808=x:=by omega
 simp only[Ieee.Format.read,PA,KP,KQ,Kx,b,d,DY,exF];by_cases a:x<4503599627370496
 ·simp[a]
 ·simp[a,h]
theorem od(x:Nat)(h:9223372036854775808<=x)(b:x<18446744073709551616):
  (∃m i,Ieee.double.read x=.number true m i)\/Ieee.double.read x=.infinity true\/∃t,Ieee.double.read x=.nan true t:=by
 have a:x/9223372036854775808%2=1:=by omega
 simp only[Ieee.Format.read,PA,KP,KQ,Kx,a];split
 ·exact .inl ⟨_,_,rfl⟩
 ·split
  ·exact .inl ⟨_,_,rfl⟩
  ·split
   ·exact .inr (.inl rfl)
   ·exact .inr (.inr ⟨_,rfl⟩)
theorem oc(x:Nat)(h:9218868437227405312<x)(d:x<9223372036854775808):∃t,Ieee.double.read x=.nan false t:=by
 have a:x/9223372036854775808%2=0:=by omega
 have b:x%9223372036854775808=x:=by omega
 simp only[Ieee.Format.read,PA,KP,KQ,Kx,a,b];rw[if_neg (by omega),if_neg (by omega),if_neg (by omega)];exact⟨_,rfl⟩
theorem Qm(x:Nat):x=exF x*4503599627370496+DY x/\DY x<9007199254740992/\(0<exF x->4503599627370496<=DY x):=by
 unfold DY exF;by_cases h:x<4503599627370496
 ·rw[if_pos h,if_pos h];omega
 ·rw[if_neg h,if_neg h];omega
theorem Pb(n:Nat)(h:0<n):2<=2^n:=by
 obtain⟨m,rfl⟩:∃m,n=m+1:=⟨n-1,by omega⟩;have:=Nat.two_pow_pos m;rw[Nat.pow_succ];omega
theorem aS(a b:Nat):compare (a:Int) (b:Int)=compare a b:=by
 rcases Nat.lt_trichotomy a b with h|h|h
 ·rw[Nat.compare_eq_lt.2 h,Int.compare_eq_lt.2 (by omega)]
 ·subst h;simp
 ·rw[Nat.compare_eq_gt.2 h,Int.compare_eq_gt.2 (by omega)]
theorem IF(x y:Nat)(p:x<9218868437227405312)(q:y<9218868437227405312):Ieee.double.order x y=some (compare x y):=by
 obtain⟨r,u,j⟩:=Qm x;obtain⟨s,A,o⟩:=Qm y;rw[Ieee.Format.order,Ht x p,Ht y q];simp only[Ieee.Datum.order,Ieee.signed,Bool.false_eq_true,if_false,Nat.shiftLeft_eq,aS];congr 1;generalize exF x=a at*;generalize exF y=c at*;generalize DY x=m at*;generalize DY y=n at*;rcases Nat.lt_trichotomy a c with h|h|h
 ·have b:(-1074+(a:Int)-min (-1074+(a:Int)) (-1074+(c:Int))).toNat=0:=by omega
  have d:(-1074+(c:Int)-min (-1074+(a:Int)) (-1074+(c:Int))).toNat=c-a:=by omega
  rw[b,d];have:=o (by omega);have i:=Pb (c-a) (by omega);have:4503599627370496*2<=n*2^(c-a):=Nat.mul_le_mul this i;have e:m*2^0<n*2^(c-a):=by omega
  have f:x<y:=by omega
  rw[Nat.compare_eq_lt.2 e,Nat.compare_eq_lt.2 f]
 ·subst h
  have b:(-1074+(a:Int)-min (-1074+(a:Int)) (-1074+(a:Int))).toNat=0:=by omega
  rw[b];rcases Nat.lt_trichotomy m n with l|l|l
  ·rw[Nat.compare_eq_lt.2 (by omega),Nat.compare_eq_lt.2 (by omega)]
  ·rw[Nat.compare_eq_eq.2 (by omega),Nat.compare_eq_eq.2 (by omega)]
  ·rw[Nat.compare_eq_gt.2 (by omega),Nat.compare_eq_gt.2 (by omega)]
 ·have b:(-1074+(a:Int)-min (-1074+(a:Int)) (-1074+(c:Int))).toNat=a-c:=by omega
  have d:(-1074+(c:Int)-min (-1074+(a:Int)) (-1074+(c:Int))).toNat=0:=by omega
  rw[b,d];have:=j (by omega);have i:=Pb (a-c) (by omega);have:4503599627370496*2<=m*2^(a-c):=Nat.mul_le_mul this i;have e:n*2^0<m*2^(a-c):=by omega
  have f:y<x:=by omega
  rw[Nat.compare_eq_gt.2 e,Nat.compare_eq_gt.2 f]
def JD(b:Nat):Bool:=decide (0<b/\b<=9218868437227405312)
theorem YV(b:Nat)(f:b<18446744073709551616):(Ieee.double.order b 0==some .gt)=JD b:=by
 rcases Nat.lt_or_ge b 9218868437227405312 with h|h
 ·rw[IF b 0 h (by decide)]
  by_cases d:b=0
  ·subst d;rfl
  ·rw[Nat.compare_eq_gt.2 (by omega)]
   exact(decide_eq_true (by omega:0<b/\b<=9218868437227405312)).symm
 ·rcases Nat.lt_or_ge b 9223372036854775808 with e|e
  ·by_cases j:b=9218868437227405312
   ·subst j;rfl
   ·obtain⟨t,ht⟩:=oc b (by omega) e
    rw[Ieee.Format.order,ht];exact(decide_eq_false (by omega:¬(0<b/\b<=9218868437227405312))).symm
  ·rw[Ieee.Format.order,Ht 0 (by decide)]
   have l:JD b=false:=decide_eq_false (by omega);rw[l];rcases od b e f with⟨m,i,a⟩|a|⟨t,a⟩
   ·rw[a]
    simp only[Ieee.Datum.order,Ieee.signed,if_true,Bool.false_eq_true,if_false,Nat.shiftLeft_eq,show DY 0=0 from rfl,Nat.zero_mul];generalize m*2^_=k;rcases Nat.eq_zero_or_pos k with d|d
    ·subst d;rfl
    ·rw[Int.compare_eq_lt.2 (by simp;omega)];rfl
   ·rw[a];rfl
   ·rw[a];rfl
theorem ZI(b:Nat)(h:JD b=true):(Ieee.double.order b 4652007308841189376==some .gt||Ieee.double.order b 4652007308841189376==some .eq)=decide (4652007308841189376<=b):=by
 have d:0<b/\b<=9218868437227405312:=of_decide_eq_true h;by_cases a:b=9218868437227405312
 ·subst a;rfl
 ·rw[IF b _ (by omega) (by decide)]
  rcases Nat.lt_trichotomy b 4652007308841189376 with l|l|l
  ·rw[Nat.compare_eq_lt.2 l,decide_eq_false (by omega)];rfl
  ·rw[Nat.compare_eq_eq.2 l,decide_eq_true (by omega)];rfl
  ·rw[Nat.compare_eq_gt.2 l,decide_eq_true (by omega)];rfl
def milN(b:Nat):Nat:=if b<4503599627370496 then 0 else(4503599627370496+b%4503599627370496)*1000/2^(1075-b/4503599627370496)
theorem jk(a b:Nat)(h:a<=b)(j:b<4652007308841189376):milN a<=milN b:=by
 unfold milN;by_cases d:a<4503599627370496
 ·rw[if_pos d];exact Nat.zero_le _
 ·rw[if_neg d,if_neg (by omega)]
  rcases Nat.lt_or_ge (a/4503599627370496) (b/4503599627370496)with l|l
  ·have i:b/4503599627370496<=1032:=by omega
   have e:1075-a/4503599627370496=(1075-b/4503599627370496)+(b/4503599627370496-a/4503599627370496):=by omega
   have f:=Pb (b/4503599627370496-a/4503599627370496) (by omega);rw[e,Nat.pow_add,Nat.mul_comm (2^(1075-b/4503599627370496)),<-Nat.div_div_eq_div_mul];refine Nat.div_le_div_right ?_;refine Nat.le_trans (Nat.div_le_div_left f (by decide)) ?_;omega
  ·have e:a/4503599627370496=b/4503599627370496:=by have:=Nat.div_le_div_right (c:=4503599627370496) h;omega
   rw[e];refine Nat.div_le_div_right ?_;have:=Nat.div_add_mod a 4503599627370496;have:=Nat.div_add_mod b 4503599627370496;omega
theorem Yz(b:Nat)(a:b<4652007308841189376):milN b<=999999:=by
 refine Nat.le_trans (jk b 4652007308841189375 (by omega) (by decide)) ?_;exact Nat.le_of_eq (by decide)
def milZ(b:Nat):Nat:=if JD b then(if 4652007308841189376<=b then 1000000 else milN b)else 0
theorem YA(b:Nat):milZ b<=1000000:=by
 unfold milZ;split
 ·split
  ·exact Nat.le_refl _
  ·exact Nat.le_trans (Yz b (by omega)) (by decide)
 ·decide
theorem Yw(n k:Nat)(e:2^k<=n)(f:n<2^(k+1)):n.log2=k:=by
 have d:n≠0:=by have:=Nat.two_pow_pos k;omega
 have a:=(Nat.le_log2 d).2 e;have b:=(Nat.log2_lt d).2 f;omega
theorem nP(n:Nat):Ieee.Toward.cut .zero false n 0=n:=by
 simp[Ieee.Toward.cut]
theorem Y1(b:Nat)(o:0<b)(h:b<4503599627370496):∃y,floatBits .mul .f64 b 4841369599423283200=some y/\y<=238690780250636288:=by
 refine⟨Ieee.double.nearest false (b*4503599627370496) (-1074),?_,?_⟩
 ·show Ieee.double.mul b 4841369599423283200=_
  rw[Ieee.Format.mul,Ht b (by omega),Ht 4841369599423283200 (by decide)];have a:DY b=b:=by rw[DY,if_pos h]
  have d:exF b=0:=by rw[exF,if_pos h]
  rw[a,d,show DY 4841369599423283200=4503599627370496 from rfl,show exF 4841369599423283200=1074 from rfl];rfl
 ·have e:b*4503599627370496≠0:=by omega
  have q:52<=(b*4503599627370496).log2:=(Nat.le_log2 e).2 (by show 2^52<=_;omega);have r:(b*4503599627370496).log2<104:=(Nat.log2_lt e).2 (by show _<2^104;omega);have l:b*4503599627370496<2^((b*4503599627370496).log2+1):=Nat.lt_log2_self;generalize b*4503599627370496=n at*;unfold Ieee.Format.nearest;rw[if_neg e];simp only[Kx,KP,KQ,show Ieee.double.fractionBits=52 from rfl];have j:1<<<min (n.log2-52) (n.log2+2)=2^(n.log2-52):=by rw[Nat.min_eq_left (by omega),Nat.shiftLeft_eq,Nat.one_mul]
  have f:n/2^(n.log2-52)<9007199254740992:=by
   refine Nat.div_lt_of_lt_mul (Nat.lt_of_lt_of_eq l ?_);rw[show(9007199254740992:Nat)=2^53 from rfl,<-Nat.pow_add];exact congrArg _ (by omega)
  have a:max (-1074+(n.log2:Int)-((52:Nat):Int)) (-1074)= -1074+(n.log2:Int)-52:=by omega
  rw[a];have d:(-1074-(-1074+(n.log2:Int)-52)).toNat=0:=by omega
  have i:(-1074+(n.log2:Int)-52 - -1074).toNat=n.log2-52:=by omega
  rw[d,i,Nat.shiftLeft_zero];have p:Ieee.Toward.cut .even false n (n.log2-52)<=9007199254740992:=by
   simp only[Ieee.Toward.cut,j];refine Nat.le_trans (Nat.add_le_add_left (Bool.toNat_le _) _) ?_;omega
  rw[Ieee.Format.word];simp only[Bool.false_eq_true,if_false];refine Nat.le_trans (Nat.min_le_left _ _) ?_;omega
theorem mz(m:Nat)(h:m<4503599627370496):floatBits .mul .f64 (4602678819172646912+m) 4845873199050653696=some (4841369599423283200+m):=by
 show Ieee.double.mul _ 4845873199050653696=_;rw[Ieee.Format.mul,Ht (4602678819172646912+m) (by omega),Ht 4845873199050653696 (by decide)];have b:DY (4602678819172646912+m)=4503599627370496+m:=by rw[DY,if_neg (by omega)];omega
 have d:exF (4602678819172646912+m)=1021:=by rw[exF,if_neg (by omega)];omega
 rw[b,d,show DY 4845873199050653696=4503599627370496 from rfl,show exF 4845873199050653696=1075 from rfl];show some (Ieee.double.nearest false ((4503599627370496+m)*4503599627370496) (-52))=_;have a:((4503599627370496+m)*4503599627370496).log2=104:=Yw _ _ (by show 2^104<=_;omega) (by show _<2^105;omega);unfold Ieee.Format.nearest;rw[if_neg (by omega),a];have e:Ieee.Toward.cut .even false ((4503599627370496+m)*4503599627370496) 52=4503599627370496+m:=by
  have f:1<<<min 52 (104+2)=4503599627370496:=rfl;simp only[Ieee.Toward.cut,a,f];rw[Nat.mul_div_cancel _ (by decide),Nat.mul_mod_left];rfl
 simp only[Kx,KP,KQ,show Ieee.double.fractionBits=52 from rfl];rw[show max (-52+((104:Nat):Int)-((52:Nat):Int)) (-1074)=0 from rfl,show(-52-(0:Int)).toNat=0 from rfl,show((0:Int) - -52).toNat=52 from rfl,show((0:Int) - -1074).toNat=1074 from rfl,Nat.shiftLeft_zero,e,Ieee.Format.word];simp only[Bool.false_eq_true,if_false];congr 1;omega
theorem my(m:Nat)(h:m<4503599627370496):floatToIntVal .f64 (4841369599423283200+m) .u64=some ((4503599627370496+m:Nat):Int):=by
 have d:DY (4841369599423283200+m)=4503599627370496+m:=by rw[DY,if_neg (by omega)];omega
 have e:exF (4841369599423283200+m)=1074:=by rw[exF,if_neg (by omega)];omega
 have f:FloatKind.f64.decode (4841369599423283200+m)=.number false (4503599627370496+m) 0:=by
  show Ieee.double.read _=_;rw[Ht _ (by omega),d,e];rfl
 have ht:(Ieee.Datum.number false (4503599627370496+m) 0).toInt .zero=some ((4503599627370496+m:Nat):Int):=by
  show some (Ieee.signed false (Ieee.Toward.cut .zero false ((4503599627370496+m)<<<(0:Int).toNat) (-(0:Int)).toNat) 0)=_;rw[show(0:Int).toNat=0 from rfl,show(-(0:Int)).toNat=0 from rfl,Nat.shiftLeft_zero,nP,Ieee.signed];simp only[Bool.false_eq_true,if_false,Nat.shiftLeft_zero]
 rw[floatToIntVal,f,ht];simp only;rw[if_pos];have a:IntKind.u64.min=0:=rfl;have b:IntKind.u64.max=18446744073709551615:=rfl;omega
theorem O4(k x:Nat):x&&&(2^k-1)=x%2^k:=Nat.and_two_pow_sub_one_eq_mod x k
theorem iJ(b:Nat)(h:b<9223372036854775808):bits .andNot .u64 (b:Int) 9223372036854775808=(b:Int):=by
 have:=u64_andNot_nat b 9223372036854775808 (by omega) (by decide);rw[show((9223372036854775808:Nat):Int)=9223372036854775808 from rfl]at this;rw[this,show 18446744073709551615-9223372036854775808=2^63-1 from rfl,O4,Nat.mod_eq_of_lt (by omega)]
theorem lP(y:Nat)(h:y<9223372036854775808):bits .andNot .u64 (y:Int) 9218868437227405312=((y%4503599627370496:Nat):Int):=by
 have:=u64_andNot_nat y 9218868437227405312 (by omega) (by decide);rw[show((9218868437227405312:Nat):Int)=9218868437227405312 from rfl]at this;rw[this,show 18446744073709551615-9218868437227405312=2^63*1+(2^52-1) from rfl,Nat.two_pow_add_eq_or_of_lt (by decide),Nat.and_or_distrib_left,O4];have:y&&&2^63*1=0:=by
  rw[Nat.mul_one];apply Nat.eq_of_testBit_eq;intro i;rw[Nat.testBit_and,Nat.zero_testBit,Nat.testBit_two_pow];by_cases a:63=i
  ·subst a
   rw[Nat.testBit_lt_two_pow (by omega:y<2^63)];rfl
  ·rw[decide_eq_false a,Bool.and_false]
 rw[this,Nat.zero_or]
theorem iH(m:Nat)(h:m<4503599627370496):bits .or .u64 (m:Int) 4602678819172646912=((4602678819172646912+m:Nat):Int):=by
 have:=u64_or_nat m 4602678819172646912 (by omega) (by decide);rw[show((4602678819172646912:Nat):Int)=4602678819172646912 from rfl]at this;rw[this,show(4602678819172646912:Nat)=2^52*1022 from rfl,Nat.two_pow_add_eq_or_of_lt h,Nat.or_comm]
theorem iI(n:Nat)(h:n<2048):bits .and .u64 (n:Int) 2047=(n:Int):=by
 have:=u64_and_nat n 2047 (by omega) (by decide);rw[show((2047:Nat):Int)=2047 from rfl]at this;rw[this,show(2047:Nat)=2^11-1 from rfl,O4,Nat.mod_eq_of_lt (by omega)]
theorem Sw(b:Nat)(w:World):(callFunc 274 #[.float .f64 b]).run Tryz.prog w=.ok (.value (.int .u64 b)) w:=by
 rw[run_callFunc_extern Tryz.func274 (by kernel_rfl) (by kernel_rfl) (by kernel_rfl) (e:=Extern.MathFloatBits.float64bits) (by kernel_rfl)];rfl
theorem Sy(n:Nat)(w:World):(callFunc 275 #[.int .u64 n]).run Tryz.prog w=.ok (.value (.float .f64 n)) w:=by
 rw[run_callFunc_extern Tryz.func275 (by kernel_rfl) (by kernel_rfl) (by kernel_rfl) (e:=Extern.MathFloatBits.float64frombits) (by kernel_rfl)];rfl
theorem O2(b:Nat)(a:b<9223372036854775808)(w:World):Calls Tryz.prog 308 #[.float .f64 b] w fun e w'=>e=.returned (.float .f64 b)/\w'=w:=by
 have d:=Sw b w;have f:=Sy b w;have h:=iJ b a;go_enter Tryz.func308,Tryz.ntmps308;go_wp2;go_ret;exact⟨rfl,rfl⟩
theorem kC(b:Nat)(a:b<9218868437227405312)(w:World):Calls Tryz.prog 271 #[.float .f64 b,.int .i64 0] w fun e w'=>e=.returned (.bool false)/\w'=w:=by
 have d:(FloatKind.f64.format.order b 9218868437227405311==some .gt)=false:=by
  show(Ieee.double.order b 9218868437227405311==some .gt)=false;rw[IF b _ a (by decide)];rcases Nat.lt_or_ge b 9218868437227405311 with l|l
  ·rw[Nat.compare_eq_lt.2 l];rfl
  ·rw[Nat.compare_eq_eq.2 (by omega)];rfl
 go_enter Tryz.func271,Tryz.ntmps271
 go_wp2_with (first
  |(go_at_call 308;refine(O2 b (by omega) _).mono ?_;rintro e w1 ⟨rfl,rfl⟩)
  |fail)
 go_ret;exact⟨rfl,rfl⟩
theorem kE(b:Nat)(a:b<9218868437227405312)(w:World):Calls Tryz.prog 272 #[.float .f64 b] w fun e w'=>e=.returned (.bool false)/\w'=w:=by
 have d:(FloatKind.f64.format.order b b !=some .eq)=false:=by
  show(Ieee.double.order b b !=some .eq)=false;rw[IF b _ a a,Nat.compare_eq_eq.2 rfl];rfl
 go_enter Tryz.func272,Tryz.ntmps272;go_wp2;go_ret;exact⟨rfl,rfl⟩
theorem pH(b:Nat)(a:b<9218868437227405312)(h:4503599627370496<=b)(w:World):Calls Tryz.prog 273 #[.float .f64 b] w fun e w'=>e=.returned (.tuple #[.float .f64 b,.int .i64 0])/\w'=w:=by
 have d:(FloatKind.f64.format.order b 4503599627370496==some .lt)=false:=by
  show(Ieee.double.order b 4503599627370496==some .lt)=false;rw[IF b _ a (by decide)];rcases Nat.lt_or_ge 4503599627370496 b with l|l
  ·rw[Nat.compare_eq_gt.2 l];rfl
  ·rw[Nat.compare_eq_eq.2 (by omega)];rfl
 go_enter Tryz.func273,Tryz.ntmps273
 go_wp2_with (first
  |(go_at_call 308;refine(O2 b (by omega) _).mono ?_;rintro e w1 ⟨rfl,rfl⟩)
  |fail)
 go_ret2;exact⟨rfl,rfl⟩
theorem pI(b y:Nat)(h:b<4503599627370496)(a:floatBits .mul .f64 b 4841369599423283200=some y)(w:World):Calls Tryz.prog 273 #[.float .f64 b] w fun e w'=>e=.returned (.tuple #[.float .f64 y,.int .i64 (-52)])/\w'=w:=by
 have d:(FloatKind.f64.format.order b 4503599627370496==some .lt)=true:=by
  show(Ieee.double.order b 4503599627370496==some .lt)=true;rw[IF b _ (by omega) (by decide),Nat.compare_eq_lt.2 h];rfl
 have f:=run_float_arith (P:=Tryz.prog) w .mul 23 .f64 b 4841369599423283200 y a;go_enter Tryz.func273,Tryz.ntmps273
 go_wp2_with (first
  |(go_at_call 308;refine(O2 b (by omega) _).mono ?_;rintro e w1 ⟨rfl,rfl⟩)
  |fail)
 go_ret2;exact⟨rfl,rfl⟩
theorem T7(b y:Nat)(d:Int)(h:0<b)(a:b<9218868437227405312)(u:y<9218868437227405312)(s: -52<=d/\d<=0)
  (n:∀w,Calls Tryz.prog 273 #[.float .f64 b] w fun e w'=>e=.returned (.tuple #[.float .f64 y,.int .i64 d])/\w'=w) (w:World):
  Calls Tryz.prog 235 #[.float .f64 b] w fun e w'=>e=.returned (.tuple #[.float .f64 (4602678819172646912+y%4503599627370496),.int .i64 (d+((y/4503599627370496:Nat):Int)-1022)])/\w'=w:=by
 have o:(FloatKind.f64.format.order b 0==some .eq)=false:=by
  show(Ieee.double.order b 0==some .eq)=false;rw[IF b _ a (by decide),Nat.compare_eq_gt.2 h];rfl
 have p:=Sw y w;have i:=Sy (4602678819172646912+y%4503599627370496) w;have j:=lP y (by omega);have f:=iH (y%4503599627370496) (by omega);have l:=iI (y/4503599627370496) (by omega);rw[show((4602678819172646912+y%4503599627370496:Nat):Int)=4602678819172646912+(y:Int)%4503599627370496 by omega]at i f;rw[show((y%4503599627370496:Nat):Int)=(y:Int)%4503599627370496 by omega]at j f;rw[show((y/4503599627370496:Nat):Int)=(y:Int)/4503599627370496 by omega]at l;have q:0<=(y:Int)/4503599627370496:=by omega
 have r:(y:Int)/4503599627370496<=2047:=by omega
 go_enter Tryz.func235,Tryz.ntmps235
 go_wp2_with (first
  |(go_at_call 271;refine(kC b a _).mono ?_;rintro e w1 ⟨rfl,rfl⟩)
  |(go_at_call 272;refine(kE b a _).mono ?_;rintro e w1 ⟨rfl,rfl⟩)
  |(go_at_call 273;refine(n _).mono ?_;rintro e w1 ⟨rfl,rfl⟩)
  |fail)
 go_ret2;rw[show d+((y:Int)/4503599627370496-1023+1)=d+((y/4503599627370496:Nat):Int)-1022 by omega];exact⟨rfl,rfl⟩
theorem TM(b f:Nat)(E:Int)(a:∀w,Calls Tryz.prog 235 #[.float .f64 b] w fun e w'=>e=.returned (.tuple #[.float .f64 f,.int .i64 E])/\w'=w)(w:World):
  Calls Tryz.prog 201 #[.float .f64 b] w fun e w'=>e=.returned (.tuple #[.float .f64 f,.int .i64 E])/\w'=w:=by
 go_enter Tryz.func201,Tryz.ntmps201
 go_wp2_with (first
  |(go_at_call 235;refine(a _).mono ?_;rintro e w1 ⟨rfl,rfl⟩)
  |fail)
 go_ret2;exact⟨rfl,rfl⟩
theorem U7(b m:Nat)(E:Int)(a:m<4503599627370496)(j: -1200<=E/\E<=53)
  (f:∀w,Calls Tryz.prog 201 #[.float .f64 b] w fun e w'=>e=.returned (.tuple #[.float .f64 (4602678819172646912+m),.int .i64 E])/\w'=w) (w:World):
  Calls Tryz.prog 172 #[.float .f64 b] w fun e w'=>e=.returned (.int .i64 (((4503599627370496+m)*1000/2^min (53-E).toNat 64:Nat):Int))/\w'=w:=by
 have h:=run_float_arith (P:=Tryz.prog) w .mul 23 .f64 _ 4845873199050653696 _ (mz m a);have i:=run_convert_float_int (P:=Tryz.prog) w 23 69 .f64 .u64 _ _ (by rw[Tryz.underlying23];rfl) Tryz.underlying69 (my m a);go_enter Tryz.func172,Tryz.ntmps172
 go_wp2_with (first
  |(go_at_call 201;refine(f _).mono ?_;rintro e w1 ⟨rfl,rfl⟩)
  |fail)
 go_ret;have d:((4503599627370496+(m:Int))*1000/2^min (53-E).toNat 64)=(((4503599627370496+m)*1000/2^min (53-E).toNat 64:Nat):Int):=by
  generalize min (53-E).toNat 64=k;rw[Int.natCast_ediv,Int.natCast_mul,Int.natCast_add,Int.natCast_pow];rfl
 have l:(4503599627370496+m)*1000/2^min (53-E).toNat 64<=(4503599627370496+m)*1000:=Nat.div_le_self _ _;rw[d];generalize (4503599627370496+m)*1000/2^min (53-E).toNat 64=q at*;rw[show wrap64 (q:Int)=q by unfold wrap64;omega];exact⟨rfl,rfl⟩
theorem mF(b:Nat)(a:0<b)(i:b<4652007308841189376)(w:World):Calls Tryz.prog 172 #[.float .f64 b] w fun e w'=>e=.returned (.int .i64 (milN b:Nat))/\w'=w:=by
 by_cases h:b<4503599627370496
 ·obtain⟨y,f,l⟩:=Y1 b a h
  have d:y%4503599627370496<4503599627370496:=Nat.mod_lt _ (by decide);refine(U7 b (y%4503599627370496) (-52+((y/4503599627370496:Nat):Int)-1022) d (by omega) (TM b _ _ (T7 b y (-52) a (by omega) (by omega) (by omega) (pI b y h f))) w).mono ?_;rintro e w' ⟨rfl,rfl⟩;rw[milN,if_pos h,show min (53-(-52+((y/4503599627370496:Nat):Int)-1022)).toNat 64=64 by omega,Nat.div_eq_of_lt (by omega)];exact⟨rfl,rfl⟩
 ·have d:b%4503599627370496<4503599627370496:=Nat.mod_lt _ (by decide)
  refine(U7 b (b%4503599627370496) (0+((b/4503599627370496:Nat):Int)-1022) d (by omega) (TM b _ _ (T7 b b 0 a (by omega) (by omega) (by omega) (pH b (by omega) (by omega)))) w).mono ?_;rintro e w' ⟨rfl,rfl⟩;rw[milN,if_neg h];by_cases j:b/4503599627370496<=1011
  ·rw[show min (53-(0+((b/4503599627370496:Nat):Int)-1022)).toNat 64=64 by omega,Nat.div_eq_of_lt (by omega),Nat.div_eq_of_lt]
   ·exact⟨rfl,rfl⟩
   ·refine Nat.lt_of_lt_of_le (m:=2^64) (by omega) (Nat.pow_le_pow_right (by decide) (by omega))
  ·rw[show min (53-(0+((b/4503599627370496:Nat):Int)-1022)).toNat 64=1075-b/4503599627370496 by omega]
   exact⟨rfl,rfl⟩
theorem jl(b:Nat)(i:b<18446744073709551616)(w:World):Calls Tryz.prog 120 #[.float .f64 b] w fun e w'=>e=.returned (.int .i64 (milZ b:Nat))/\w'=w:=by
 have f:(FloatKind.f64.format.order b 0==some .gt)=JD b:=YV b i;unfold milZ;cases a:JD b
 ·rw[a]at f
  go_enter Tryz.func120,Tryz.ntmps120;go_wp2;go_ret;exact⟨rfl,rfl⟩
 ·have h:(FloatKind.f64.format.order b 4652007308841189376==some .gt||FloatKind.f64.format.order b 4652007308841189376==some .eq)=decide (4652007308841189376<=b):=ZI b a
  rw[a]at f;have hp:0<b:=(of_decide_eq_true a).1;by_cases d:4652007308841189376<=b
  ·rw[decide_eq_true d]at h
   rw[if_pos rfl,if_pos d];go_enter Tryz.func120,Tryz.ntmps120;go_wp2;go_ret;exact⟨rfl,rfl⟩
  ·rw[decide_eq_false d]at h
   rw[if_pos rfl,if_neg d];go_enter Tryz.func120,Tryz.ntmps120
   go_wp2_with (first
    |(go_at_call 172;refine(mF b hp (by omega) _).mono ?_;rintro e w1 ⟨rfl,rfl⟩)
    |fail)
   go_ret;exact⟨rfl,rfl⟩
end Go.Proofs.YtfpfcnfmigaphaaGreatDoor
