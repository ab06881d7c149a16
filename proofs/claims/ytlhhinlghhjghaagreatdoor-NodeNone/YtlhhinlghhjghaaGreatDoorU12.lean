/-
  A block of many cells ('BkA'). No condition.
  From 0 to 256 ('capN'); contract of bucketlineref15.Cap.
  A queue in memory ('QuAt': its block, and its channel's); contracts of queue.New, Len, Lost, of a queue that is there and of none. No condition.
  Contracts of queue.Put (texts of at most 2^20 bytes) and queue.Take, of a queue that is there and of none.
  A bucket in memory ('BtAt'); contracts of pace.within, New, Tick, Take, Level, of a bucket that is there and of none. No condition.
-/
import Derived.Test.YtlhhinlghhjghaaGreatDoorU9
import Derived.Test.YtlhhinlghhjghaaGreatDoorU0
import Derived.Test.YtlhhinlghhjghaaGreatDoorU11
import Derived.BigQuiet
import Derived.Test.YtlhhinlghhjghaaGreatDoorU2
import Derived.Conc.LoneSelectN
import Derived.Test.YtlhhinlghhjghaaGreatDoorU5
namespace Go.Proofs.YtlhhinlghhjghaaGreatDoor
open Go.RowKit
set_option linter.unusedVariables false
set_option linter.unusedSimpArgs false
set_option maxRecDepth 4000
set_option maxHeartbeats 8000000
variable {ov:Bool}{k z:Int}{rs:List RV}{cs:List Value}{g B gs m:Nat}{T:TypeId}{v:Value}{w w':World}
def BkA(T:TypeId)(w:World)(g:Nat)(cs:List Value):Prop:=w.heap[g]? =some (.cells cs.toArray T (0,0))
theorem Zag(T:TypeId)(w:World)(cs:List Value):BkA T (w.alloc (.cells cs.toArray T)) w.heap.size cs:=by
 show(w.heap.push _)[w.heap.size]? =_
 simp
theorem BkA.lt(h:BkA T w g cs):g<w.heap.size:=(Array.getElem?_eq_some_iff.1 h).1
theorem BkA.belowB(h:BkA T w g cs)(hb:Below B w w')(hg:g<B):BkA T w' g cs:=(hb.block g hg).trans h
theorem BkA.below(h:BkA T w g cs)(hb:Below w.heap.size w w'):BkA T w' g cs:=h.belowB hb h.lt
theorem BkA.at(h:BkA T w g cs)(i:Nat){v:Value}(hv:cs[i]? =some v):w.cell? ⟨g,i,none⟩=some v:=by
 unfold BkA at h
 rw[cell_of_row w g _ _ _ _ h]
 simpa using hv
theorem BkA.frz(h:BkA T w g cs)(i:Nat):w.frozen? ⟨g,i,none⟩=false:=by
 unfold BkA at h
 simp[World.frozen?,h]
theorem BkA.set(h:BkA T w g cs)(i:Nat)(v:Value):BkA T (w.setCell ⟨g,i,none⟩ v) g (cs.set i v):=by
 have:=heap_setCell_same w g i _ _ v h
 rw[List.setIfInBounds_toArray]at this
 exact this
theorem BkA.kept{row:Option Nat}(h:BkA T w g cs)(hg:w.grownBy w' row)(hne:some g≠row):BkA T w' g cs:=(hg.block g h.lt hne).trans h
theorem BkA.tu{F:Nat→Prop}(h:BkA T w g cs)(ht:Tu F w w')(hF:¬F g):BkA T w' g cs:=(ht.block g h.lt hF).trans h
theorem BkA.ne{T':TypeId}{g':Nat}{cur:Array Value}{fz:Nat×Nat}(h:BkA T w g cs)(h':w.heap[g']? =some (.cells cur T' fz))(hT:T≠T'):g≠g':=fun e=>by
 subst e
 unfold BkA at h
 rw[h]at h'
 simp only[Option.some.injEq,Obj.cells.injEq]at h'
 exact hT h'.2.1
theorem BkA.neS(h:BkA T w g cs)(ho:OwnS w B v rs)(hT:T≠57):v.ownBlock≠some g:=fun e=>by
 obtain⟨cur,hc⟩:=ho.blk5 e
 exact h.ne hc hT rfl
theorem BkA.neSt(h:BkA T w g cs)(hs:StAt w gs B k z m v rs ov)(hT:T≠255):g≠gs:=h.ne hs.blk hT
theorem BkA.outSt(h:BkA T w g cs)(hs:StAt w gs B k z m v rs ov)(hT:T≠255)(hR:T≠57):¬stF gs v g:=fun hf=>by
 rcases hf with hf|hf
 ·exact h.neSt hs hT hf
 ·exact h.neS hs.own hR hf
theorem Zav(w:World)(g i:Nat)(u:Value):Tu (fun j=>j=g) w (w.setCell ⟨g,i,none⟩ u):=Tu.of_gb (Zad _ _ _ _) fun j _ e=>(Option.some.inj e).symm
theorem StAt.sets(hs:StAt w gs B k z m v rs ov)(h:BkA T w g cs)(ht:Tu (fun j=>j=g) w w')(hT:T≠255)(hR:T≠57)(hU:T≠69):StAt w' gs B k z m v rs ov:=
 ⟨hs.blk.tu ht (fun e=>h.neSt hs hT e.symm),hs.lo,hs.own.tu ht (fun j hj e=>h.outSt hs hT hR (e▸ .inr hj)),hs.rows.tu ht (fun j cur hc e=>h.ne hc hU e.symm),hs.le,hs.most,hs.short⟩
theorem BkA.setAll{us:List Value}(h:BkA T w g cs)(hl:us.length=cs.length):BkA T (w.setCells g 0 us) g us:=by
 obtain⟨cur,h1,h2,h3⟩:=ZaL g T us 0 w cs.toArray h
 unfold BkA
 rw[h1]
 have:cur=us.toArray:=by
  apply Array.ext_getElem?
  intro j
  by_cases hj:j<cs.length
  ·rw[h3 j (by simpa using hj),if_pos (by omega)];simp
  ·rw[Array.getElem?_eq_none (by rw[h2];simpa using hj),Array.getElem?_eq_none (by simp;omega)]
 rw[this]
def capN(n:Int):Nat:=min (max n 0).toNat 256
theorem ZfA(n:Int):capN n≤256:=Nat.min_le_right _ _
theorem Zy1(n:Int):min (max n 0) 256=(capN n:Int):=by unfold capN;omega
theorem ZiW(n:Int)(ts:Array TypeId)(t:TypeId)(w:World):(Builtin.max_ ts t #[.int .i64 n,.int .i64 0]).run Tryz.prog w=.ok (.int .i64 (max n 0)) w:=by
 rw[run_max_int2]
 congr 2
 split<;>omega
theorem Zi4(n:Int)(ts:Array TypeId)(t:TypeId)(w:World):(Builtin.min_ ts t #[.int .i64 (max n 0),.int .i64 256]).run Tryz.prog w=.ok (.int .i64 (capN n:Int)) w:=by
 rw[run_min_int2,←Zy1]
 congr 2
 split<;>omega
end Go.Proofs.YtlhhinlghhjghaaGreatDoor
namespace Go.Proofs.YtlhhinlghhjghaaGreatDoor
open Go.RowKit Go.Conc
set_option linter.unusedVariables false
set_option linter.unusedSimpArgs false
set_option maxRecDepth 4000
set_option maxHeartbeats 8000000
variable {L:List ByteArray}{g c m lo:Nat}{w w':World}
structure QuAt(w:World)(g c m:Nat)(L:List ByteArray)(lo:Nat):Prop where
 blk:BkA 250 w g [.chan (some c),.int .i64 (lo:Int)]
 chn:∃s r,w.heap[c]? =some (.chan m (Zax L).toArray false s r false)
 len:L.length≤m
 most:m≤256
def quF(g c:Nat)(j:Nat):Prop:=j=g∨j=c
theorem QuAt.lt(h:QuAt w g c m L lo):g<w.heap.size∧c<w.heap.size:=by
 obtain⟨s,r,hc⟩:=h.chn
 exact⟨h.blk.lt,(Array.getElem?_eq_some_iff.1 hc).1⟩
theorem QuAt.tu{F:Nat→Prop}(h:QuAt w g c m L lo)(ht:Tu F w w')(hg:¬F g)(hc:¬F c):QuAt w' g c m L lo:=by
 obtain⟨s,r,hk⟩:=h.chn
 exact⟨h.blk.tu ht hg,⟨s,r,(ht.block c h.lt.2 hc).trans hk⟩,h.len,h.most⟩
theorem QuAt.below(h:QuAt w g c m L lo)(hb:Below w.heap.size w w'):QuAt w' g c m L lo:=
 h.tu (F:=fun _=>False) (Tu.of_below hb) id id
theorem QuAt.belowB{B:Nat}(h:QuAt w g c m L lo)(hb:Below B w w')(hg:g<B)(hc:c<B):QuAt w' g c m L lo:=by
 obtain⟨s,r,hk⟩:=h.chn
 exact⟨h.blk.belowB hb hg,⟨s,r,(hb.block c hc).trans hk⟩,h.len,h.most⟩
theorem QuAt.ne(h:QuAt w g c m L lo):g≠c:=fun e=>by
 obtain⟨s,r,hk⟩:=h.chn
 have:=h.blk
 unfold BkA at this
 rw[e,hk]at this
 cases this
theorem Zmv(w:World)(c cap:Nat)(buf:Array Value)(cl:Bool)(s r:Nat)(tm:Bool):Tu (fun j=>j=c) w (w.setChan c cap buf cl s r tm):=
 ⟨rfl,rfl,rfl,by rw[size_setChan];exact Nat.le_refl _,fun k _ hk=>by simp only[World.setChan];rw[Array.getElem?_setIfInBounds_ne (fun e=>hk e.symm)]⟩
theorem Tu.wide{F G:Nat→Prop}(h:Tu F w w')(hs:∀j,F j→G j):Tu G w w':=⟨h.os,h.tape,h.output,h.size,fun k hk hn=>h.block k hk fun hf=>hn (hs k hf)⟩
theorem QuAt.chan{L':List ByteArray}(h:QuAt w g c m L lo)(hl:L'.length≤m)(s r:Nat):QuAt (w.setChan c m (Zax L').toArray false s r false) g c m L' lo:=
 ⟨h.blk.tu (Zmv _ _ _ _ _ _ _ _) h.ne,⟨s,r,heap_setChan _ _ _ _ _ _ _ _ h.lt.2⟩,hl,h.most⟩
theorem QuAt.lost(h:QuAt w g c m L lo)(lo':Nat):QuAt (w.setCell ⟨g,1,none⟩ (.int .i64 (lo':Int))) g c m L lo':=by
 obtain⟨s,r,hk⟩:=h.chn
 exact⟨h.blk.set 1 _,⟨s,r,((Zav w g 1 _).block c h.lt.2 (fun e=>h.ne e.symm)).trans hk⟩,h.len,h.most⟩
theorem Zdf(L:List ByteArray):(Zax L).toArray.size=L.length:=by rw[List.size_toArray,Zjq]
theorem Zsj(n:Int)(w:World):(Instr.makeChan 248 (.int .i64 (capN n:Int))).run Tryz.prog w=.ok (.chan (some w.heap.size)) (w.alloc (.chan (capN n) #[] false 0 0 false)):=by
 obtain⟨i0,hi,hz0,hz1,hz2⟩:=info_parts Ze2
 have:=ZfA n
 exact run_makeChan (P:=Tryz.prog) (w:=w) Tryz.underlying248 hi .i64 (capN n) (by omega) (by rw[hz2];omega)
theorem ZqT(n:Int)(w:World):
  Calls Tryz.prog 121 #[.int .i64 n] w fun e w'=> ∃g c,e=.returned (.pointer (some ⟨g,0,none⟩))∧w.heap.size≤g∧w.heap.size≤c∧QuAt w' g c (capN n) [] 0∧Below w.heap.size w w':=by
 have h1:=ZiW n
 have h2:=Zi4 n
 have h3:=Zsj n
 have hm:=ZfA n
 generalize capN n=m at*
 go_enter Tryz.func121,Tryz.ntmps121
 go_wp2
 go_ret
 have hb:Below w.heap.size w ((w.alloc (.chan m #[] false 0 0 false)).alloc (.cells #[.chan (some w.heap.size),.int .i64 0] 250)):=
  ((Below.refl _ _).alloc (Nat.le_refl _) _).trans (((Below.refl _ _).alloc (Nat.le_refl _) _).mono (by simp))
 refine⟨_,w.heap.size,rfl,by simp,Nat.le_refl _,⟨?_,⟨0,0,?_⟩,Nat.zero_le _,hm⟩,hb⟩
 ·have:=Zag 250 (w.alloc (.chan m #[] false 0 0 false)) [.chan (some w.heap.size),.int .i64 0]
  simpa using this
 ·rw[Below.heap_alloc _ _ _ (by simp)]
  exact heap_alloc_new w _
theorem Zfh(g c m lo:Nat)(L:List ByteArray)(w:World)(h:QuAt w g c m L lo):Calls Tryz.prog 146 #[.pointer (some ⟨g,0,none⟩)] w fun e w'=>e=.returned (.int .i64 (L.length:Int))∧w'=w:=by
 have h0:=h.blk.at 0 rfl
 obtain⟨s,r,hc⟩:=h.chn
 have hl:=run_len_chan (P:=Tryz.prog) (w:=w) 248 3 Tryz.underlying248 hc
 rw[Zdf]at hl
 generalize L.length=n at*
 clear hc h
 go_enter Tryz.func146,Tryz.ntmps146
 go_wp2
 go_ret
 exact⟨rfl,rfl⟩
theorem Zl4(L:List ByteArray)(s:ByteArray):(Zax L).toArray.push (.string s)=(Zax (L++[s])).toArray:=by simp[Zax]
theorem ZpB(s:ByteArray)(L:List ByteArray):(Zax (s::L)).toArray.extract 1 (Zax (s::L)).toArray.size=(Zax L).toArray:=by
 simp[Zax,List.take_of_length_le]
theorem ZrR (g c m lo : Nat) (L : List ByteArray) (s : ByteArray) (w : World) (h : QuAt w g c m L lo) (hs : s.size ≤ 1048576) (hr : L.length < m) :
    Calls Tryz.prog 83 #[.pointer (some ⟨g, 0, none⟩), .string s] w fun e w' => e = .returned (.bool true) ∧ QuAt w' g c m (L ++ [s]) lo ∧ Tu (quF g c) w w' := by
  have h0 := h.blk.at 0 rfl
  have H := hide h
  have HS := hide hs
  clear h hs
  refine Zdu Tryz.func83 rfl (fun _ h => by cases h.1) ?_
  simp only [Tryz.ntmps83, List.size_toArray, List.length_cons, List.length_nil, Nat.reduceAdd, Nat.reduceSub, Array.replicate_succ,
     Array.replicate_zero, List.push_toArray, List.append_toArray, List.nil_append, List.cons_append]
  refine ZbH (fun K hK => ?_)
  go_wp2
  refine ZbH (fun K hK => ?_)
  go_wp2
  refine ZbH (fun K hK => ?_)
  go_wp2_with (first
    | (go_at_call 89; refine (Zbp _ _ (unhide HS)).mono ?_; rintro e w1 ⟨rfl, hb1⟩; have HB := hide hb1; clear hb1)
    | fail)
  have H1 := hide ((unhide H).below (unhide HB))
  obtain ⟨n, r, hc⟩ := (unhide H1).chn
  refine ZiT (ZgE rfl (ZhN (z := .string ⟨#[]⟩) (v := .string s) (c := c) (by simp [go_sem, execOp, scase, Act.eval]) hc (by rw [Zdf]; exact hr)) ?_)
  rw [Zl4]
  have H2 := hide ((unhide H1).chan (L' := L ++ [s]) (by rw [List.length_append, List.length_singleton]; omega) (n + 1) r)
  have HT := hide (Tu.after (unhide HB) ((Zmv w1 c m (Zax (L ++ [s])).toArray false (n + 1) r false).wide (G := quF g c) fun j e => .inr e))
  clear hc
  generalize w1.setChan c m (Zax (L ++ [s])).toArray false (n + 1) r false = w2 at *
  go_wp2
  refine ZnG ?_
  go_wp2
  go_ret
  exact ⟨rfl, unhide H2, unhide HT⟩
theorem ZuU (g c m lo : Nat) (L : List ByteArray) (s : ByteArray) (w : World) (h : QuAt w g c m L lo) (hs : s.size ≤ 1048576) (hr : m ≤ L.length) (hlo : lo ≤ 1099511627776) :
    Calls Tryz.prog 83 #[.pointer (some ⟨g, 0, none⟩), .string s] w fun e w' => e = .returned (.bool false) ∧ QuAt w' g c m L (lo + 1) ∧ Tu (quF g c) w w' := by
  have h0 := h.blk.at 0 rfl
  have H := hide h
  have HS := hide hs
  clear h hs
  refine Zdu Tryz.func83 rfl (fun _ h => by cases h.1) ?_
  simp only [Tryz.ntmps83, List.size_toArray, List.length_cons, List.length_nil, Nat.reduceAdd, Nat.reduceSub, Array.replicate_succ,
     Array.replicate_zero, List.push_toArray, List.append_toArray, List.nil_append, List.cons_append]
  refine ZbH (fun K hK => ?_)
  go_wp2
  refine ZbH (fun K hK => ?_)
  go_wp2
  refine ZbH (fun K hK => ?_)
  go_wp2_with (first
    | (go_at_call 89; refine (Zbp _ _ (unhide HS)).mono ?_; rintro e w1 ⟨rfl, hb1⟩; have HB := hide hb1; clear hb1)
    | fail)
  have H1 := hide ((unhide H).below (unhide HB))
  obtain ⟨n, r, hc⟩ := (unhide H1).chn
  refine ZiT (ZgE rfl (ZhQ (z := .string ⟨#[]⟩) (v := .string s) (c := c) (by simp [go_sem, execOp, scase, Act.eval]) hc (by rw [Zdf]; exact hr)) ?_)
  clear hc
  go_wp2
  refine ZnG ?_
  have h1 := (unhide H1).blk.at 1 rfl
  have hf := (unhide H1).blk.frz 1
  have hw : IntKind.i64.wrap ((lo : Int) + 1) = (lo : Int) + 1 := by rw [IntKind.wrap_i64]; omega
  go_wp2
  go_ret
  have h3 := (unhide H1).lost (lo + 1)
  rw [Int.natCast_add] at h3
  exact ⟨rfl, h3, Tu.after (unhide HB) ((Zav w1 g 1 _).wide (G := quF g c) fun j e => .inl e)⟩
theorem Zo8 (g c m lo : Nat) (s : ByteArray) (L : List ByteArray) (w : World) (h : QuAt w g c m (s :: L) lo) :
    Calls Tryz.prog 113 #[.pointer (some ⟨g, 0, none⟩)] w fun e w' => e = .returned (.tuple #[.string s, .bool true]) ∧ QuAt w' g c m L lo ∧ Tu (quF g c) w w' := by
  have h0 := h.blk.at 0 rfl
  have H := hide h
  clear h
  refine Zdu Tryz.func113 rfl (fun _ h => by cases h.1) ?_
  simp only [Tryz.ntmps113, List.size_toArray, List.length_cons, List.length_nil, Nat.reduceAdd, Nat.reduceSub, Array.replicate_succ,
     Array.replicate_zero, List.push_toArray, List.append_toArray, List.nil_append, List.cons_append]
  refine ZbH (fun K hK => ?_)
  go_wp2
  refine ZbH (fun K hK => ?_)
  go_wp2
  refine ZbH (fun K hK => ?_)
  go_wp2
  obtain ⟨n, r, hc⟩ := (unhide H).chn
  refine ZiT (ZgE rfl (ZhK (z := .string ⟨#[]⟩) (c := c) (by simp [go_sem, execOp, rcase, Act.eval]) hc (by rw [Zdf]; exact Nat.succ_pos _)) ?_)
  rw [ZpB]
  have hd : (Zax (s :: L)).toArray.getD 0 undef = .string s := by simp [Zax]
  rw [hd]
  have H2 := hide ((unhide H).chan (L' := L) (by have := (unhide H).len; rw [List.length_cons] at this; omega) n (r + 1))
  have HT := hide ((Zmv w c m (Zax L).toArray false n (r + 1) false).wide (G := quF g c) fun j e => .inr e)
  clear hc hd
  generalize w.setChan c m (Zax L).toArray false n (r + 1) false = w2 at *
  go_wp2
  refine ZnG ?_
  go_wp2
  go_ret2
  exact ⟨rfl, unhide H2, unhide HT⟩
end Go.Proofs.YtlhhinlghhjghaaGreatDoor
namespace Go.Proofs.YtlhhinlghhjghaaGreatDoor
open Go.RowKit
set_option linter.unusedVariables false
set_option linter.unusedSimpArgs false
set_option maxRecDepth 4000
set_option maxHeartbeats 8000000
def wiZ(x a b:Int):Int:=min (max x a) b
theorem Zxo(x:Int){a b:Int}(h:a≤b):a≤wiZ x a b∧wiZ x a b≤b:=by unfold wiZ;omega
theorem ZzC{x a b:Int}(h1:a≤x)(h2:x≤b):wiZ x a b=x:=by unfold wiZ;omega
structure BtAt(w:World)(g:Nat)(M T L:Int):Prop where
 blk:BkA 252 w g [.int .i64 M,.int .i64 T,.int .i64 L]
 mil:0≤M∧M≤1000000
 top:1000≤T∧T≤256000
 lev:0≤L∧L≤T
theorem BtAt.tu{F:Nat→Prop}{w w':World}{g:Nat}{M T L:Int}(h:BtAt w g M T L)(ht:Tu F w w')(hF:¬F g):BtAt w' g M T L:=⟨h.blk.tu ht hF,h.mil,h.top,h.lev⟩
theorem ZgV(x a b:Int)(w:World):Calls Tryz.prog 144 #[.int .i64 x,.int .i64 a,.int .i64 b] w fun e w'=>e=.returned (.int .i64 (wiZ x a b))∧w'=w:=by
 have hmx:=Zfb x a
 have hmn:=Zgm (max x a) b
 unfold wiZ
 generalize max x a=m at*
 generalize min m b=n at*
 go_enter Tryz.func144,Tryz.ntmps144
 go_wp2
 go_ret
 exact⟨rfl,rfl⟩
theorem ZtA(m k:Int)(w:World):
  Calls Tryz.prog 173 #[.int .i64 m,.int .i64 k] w fun e w'=>e=.returned (.pointer (some ⟨w.heap.size,0,none⟩))∧BtAt w' w.heap.size (wiZ m 0 1000000) (1000*wiZ k 1 256) (1000*wiZ k 1 256)∧Below w.heap.size w w':=by
 have h1:=Zxo k (show(1:Int)≤256 by decide)
 have h2:=Zxo m (show(0:Int)≤1000000 by decide)
 have HF1:Hid True:=hide trivial
 have H1:=ZgV k 1 256
 have H2:=ZgV m 0 1000000
 generalize wiZ k 1 256=x at*
 generalize wiZ m 0 1000000=y at*
 go_enter Tryz.func173,Tryz.ntmps173
 go_wp2_with (first
  |(clear HF1;go_at_call 144;refine(H1 _).mono ?_;rintro e w1 ⟨rfl,hw1⟩;obtain rfl:=hw1.symm;clear hw1)
  |(go_at_call 144;refine(H2 _).mono ?_;rintro e w1 ⟨rfl,hw1⟩;obtain rfl:=hw1.symm;clear hw1)
  |fail)
 go_ret
 exact⟨rfl,⟨Zag 252 _ [.int .i64 y,.int .i64 (1000*x),.int .i64 (1000*x)],h2,by omega,by omega⟩,alloc_low _ _⟩
theorem ZrG(g:Nat)(M T L:Int)(w:World)(h:BtAt w g M T L)(hl:L<1000):Calls Tryz.prog 167 #[.pointer (some ⟨g,0,none⟩)] w fun e w'=>e=.returned (.bool false)∧w'=w:=by
 have h2:=h.blk.at 2 rfl
 go_enter Tryz.func167,Tryz.ntmps167
 go_wp2
 go_ret
 exact⟨rfl,rfl⟩
theorem ZpX(g:Nat)(M T L:Int)(w:World)(h:BtAt w g M T L)(hl:1000≤L):Calls Tryz.prog 167 #[.pointer (some ⟨g,0,none⟩)] w fun e w'=>e=.returned (.bool true)∧BtAt w' g M T (L-1000)∧Tu (fun j=>j=g) w w':=by
 have h2:=h.blk.at 2 rfl
 have hf:=h.blk.frz 2
 have hb:=h.lev
 have ht:=h.top
 have H:=hide h
 clear h
 go_enter Tryz.func167,Tryz.ntmps167
 go_wp2
 go_ret
 exact⟨rfl,⟨(unhide H).blk.set 2 _,(unhide H).mil,ht,by omega⟩,Zav _ _ _ _⟩
theorem ZuX(m k:Int)(w:World):
  Calls Tryz.prog 173 #[.int .i64 m,.int .i64 k] w fun e w'=> ∃g,e=.returned (.pointer (some ⟨g,0,none⟩))∧w.heap.size≤g∧BtAt w' g (wiZ m 0 1000000) (1000*wiZ k 1 256) (1000*wiZ k 1 256)∧Below w.heap.size w w':=
 (ZtA m k w).mono fun e w' ⟨h1,h2,h3⟩=>⟨_,h1,Nat.le_refl _,h2,h3⟩
end Go.Proofs.YtlhhinlghhjghaaGreatDoor
