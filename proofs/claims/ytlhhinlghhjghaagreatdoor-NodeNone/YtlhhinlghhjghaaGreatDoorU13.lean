/-
  A block of many cells ('BkA'). No condition.
  From 0 to 256 ('capN'); contract of bucketlineref15.Cap.
  A queue in memory ('QuAt': its block, and its channel's); contracts of queue.New, Len, Lost, of a queue that is there and of none. No condition.
  Contracts of queue.Put (texts of at most 2^20 bytes) and queue.Take, of a queue that is there and of none.
  A bucket in memory ('BtAt'); contracts of pace.within, New, Tick, Take, Level, of a bucket that is there and of none. No condition.
  The words of float64: those of the numbers from 0 to infinity lie as the numbers do (fl_order); which are above 0 (fl_gt0), at least 1000 (fl_ge), at most another one (fl_le); milN: a rate's thousandths, rounded down, by its word; it rises (milN_mono). No condition.
  Products of float64 words that math.Frexp and pace come to: a number below the least normal one times 2^52 (sub_mul), a fraction from 1/2 on times 2^53 (frac_mul), as an integer (frac_int); bits of words. No condition.
  Contracts of math.Float64bits, Float64frombits (the model's own entries), Abs, IsInf, IsNaN, normalize, frexp, Frexp of a number above 0; of pace.thousandths, pace.Milli of any float. No condition.
  A link in memory ('LkAt': its block, its bucket's, its queue's and the queue's channel); contracts of link.fill and link.New. No condition.
-/
import Derived.Test.YtlhhinlghhjghaaGreatDoorU9
import Derived.Test.YtlhhinlghhjghaaGreatDoorU0
import Derived.Test.YtlhhinlghhjghaaGreatDoorU12
import Derived.BigQuiet
import Derived.Test.YtlhhinlghhjghaaGreatDoorU2
import Derived.Conc.LoneSelectN
import Derived.Test.YtlhhinlghhjghaaGreatDoorU5
import Derived.WalkLawsBesides
import Derived.Laws.BitsAllLaws
import Derived.Laws.Externs
import Derived.Deep.RegionLaw
namespace Go.Proofs.YtlhhinlghhjghaaGreatDoor
open Go.RowKit
set_option linter.unusedVariables false
set_option linter.unusedSimpArgs false
set_option maxRecDepth 4000
set_option maxHeartbeats 8000000
variable {ov:Bool}{k z:Int}{rs:List RV}{cs:List Value}{g B gs m:Nat}{T:TypeId}{v:Value}{w w':World}
def BkA(T:TypeId)(w:World)(g:Nat)(cs:List Value):Prop:=w.heap[g]? =some (.cells cs.toArray T (0,0))
theorem Zag(T:TypeId)(w:World)(cs:List Value):BkA T (w.alloc (.cells cs.toArray T)) w.heap.size cs:=by
 show(w.heap.push _)[w.heap.size]? =_
 simp
theorem BkA.lt(h:BkA T w g cs):g<w.heap.size:=(Array.getElem?_eq_some_iff.1 h).1
theorem BkA.belowB(h:BkA T w g cs)(hb:Below B w w')(hg:g<B):BkA T w' g cs:=(hb.block g hg).trans h
theorem BkA.below(h:BkA T w g cs)(hb:Below w.heap.size w w'):BkA T w' g cs:=h.belowB hb h.lt
theorem BkA.at(h:BkA T w g cs)(i:Nat){v:Value}(hv:cs[i]? =some v):w.cell? ⟨g,i,none⟩=some v:=by
 unfold BkA at h
 rw[cell_of_row w g _ _ _ _ h]
 simpa using hv
theorem BkA.frz(h:BkA T w g cs)(i:Nat):w.frozen? ⟨g,i,none⟩=false:=by
 unfold BkA at h
 simp[World.frozen?,h]
theorem BkA.set(h:BkA T w g cs)(i:Nat)(v:Value):BkA T (w.setCell ⟨g,i,none⟩ v) g (cs.set i v):=by
 have:=heap_setCell_same w g i _ _ v h
 rw[List.setIfInBounds_toArray]at this
 exact this
theorem BkA.kept{row:Option Nat}(h:BkA T w g cs)(hg:w.grownBy w' row)(hne:some g≠row):BkA T w' g cs:=(hg.block g h.lt hne).trans h
theorem BkA.tu{F:Nat→Prop}(h:BkA T w g cs)(ht:Tu F w w')(hF:¬F g):BkA T w' g cs:=(ht.block g h.lt hF).trans h
theorem BkA.ne{T':TypeId}{g':Nat}{cur:Array Value}{fz:Nat×Nat}(h:BkA T w g cs)(h':w.heap[g']? =some (.cells cur T' fz))(hT:T≠T'):g≠g':=fun e=>by
 subst e
 unfold BkA at h
 rw[h]at h'
 simp only[Option.some.injEq,Obj.cells.injEq]at h'
 exact hT h'.2.1
theorem BkA.neS(h:BkA T w g cs)(ho:OwnS w B v rs)(hT:T≠57):v.ownBlock≠some g:=fun e=>by
 obtain⟨cur,hc⟩:=ho.blk5 e
 exact h.ne hc hT rfl
theorem BkA.neSt(h:BkA T w g cs)(hs:StAt w gs B k z m v rs ov)(hT:T≠255):g≠gs:=h.ne hs.blk hT
theorem BkA.outSt(h:BkA T w g cs)(hs:StAt w gs B k z m v rs ov)(hT:T≠255)(hR:T≠57):¬stF gs v g:=fun hf=>by
 rcases hf with hf|hf
 ·exact h.neSt hs hT hf
 ·exact h.neS hs.own hR hf
theorem Zav(w:World)(g i:Nat)(u:Value):Tu (fun j=>j=g) w (w.setCell ⟨g,i,none⟩ u):=Tu.of_gb (Zad _ _ _ _) fun j _ e=>(Option.some.inj e).symm
theorem StAt.sets(hs:StAt w gs B k z m v rs ov)(h:BkA T w g cs)(ht:Tu (fun j=>j=g) w w')(hT:T≠255)(hR:T≠57)(hU:T≠69):StAt w' gs B k z m v rs ov:=
 ⟨hs.blk.tu ht (fun e=>h.neSt hs hT e.symm),hs.lo,hs.own.tu ht (fun j hj e=>h.outSt hs hT hR (e▸ .inr hj)),hs.rows.tu ht (fun j cur hc e=>h.ne hc hU e.symm),hs.le,hs.most,hs.short⟩
theorem BkA.setAll{us:List Value}(h:BkA T w g cs)(hl:us.length=cs.length):BkA T (w.setCells g 0 us) g us:=by
 obtain⟨cur,h1,h2,h3⟩:=ZaM g T us 0 w cs.toArray h
 unfold BkA
 rw[h1]
 have:cur=us.toArray:=by
  apply Array.ext_getElem?
  intro j
  by_cases hj:j<cs.length
  ·rw[h3 j (by simpa using hj),if_pos (by omega)];simp
  ·rw[Array.getElem?_eq_none (by rw[h2];simpa using hj),Array.getElem?_eq_none (by simp;omega)]
 rw[this]
def capN(n:Int):Nat:=min (max n 0).toNat 256
theorem ZfQ(n:Int):capN n≤256:=Nat.min_le_right _ _
theorem Zzv(n:Int):min (max n 0) 256=(capN n:Int):=by unfold capN;omega
theorem Zje(n:Int)(ts:Array TypeId)(t:TypeId)(w:World):(Builtin.max_ ts t #[.int .i64 n,.int .i64 0]).run Tryz.prog w=.ok (.int .i64 (max n 0)) w:=by
 rw[run_max_int2]
 congr 2
 split<;>omega
theorem ZiY(n:Int)(ts:Array TypeId)(t:TypeId)(w:World):(Builtin.min_ ts t #[.int .i64 (max n 0),.int .i64 256]).run Tryz.prog w=.ok (.int .i64 (capN n:Int)) w:=by
 rw[run_min_int2,←Zzv]
 congr 2
 split<;>omega
end Go.Proofs.YtlhhinlghhjghaaGreatDoor
namespace Go.Proofs.YtlhhinlghhjghaaGreatDoor
open Go.RowKit Go.Conc
set_option linter.unusedVariables false
set_option linter.unusedSimpArgs false
set_option maxRecDepth 4000
set_option maxHeartbeats 8000000
variable {L:List ByteArray}{g c m lo:Nat}{w w':World}
structure QuAt(w:World)(g c m:Nat)(L:List ByteArray)(lo:Nat):Prop where
 blk:BkA 250 w g [.chan (some c),.int .i64 (lo:Int)]
 chn:∃s r,w.heap[c]? =some (.chan m (Zax L).toArray false s r false)
 len:L.length≤m
 most:m≤256
def quF(g c:Nat)(j:Nat):Prop:=j=g∨j=c
theorem QuAt.lt(h:QuAt w g c m L lo):g<w.heap.size∧c<w.heap.size:=by
 obtain⟨s,r,hc⟩:=h.chn
 exact⟨h.blk.lt,(Array.getElem?_eq_some_iff.1 hc).1⟩
theorem QuAt.tu{F:Nat→Prop}(h:QuAt w g c m L lo)(ht:Tu F w w')(hg:¬F g)(hc:¬F c):QuAt w' g c m L lo:=by
 obtain⟨s,r,hk⟩:=h.chn
 exact⟨h.blk.tu ht hg,⟨s,r,(ht.block c h.lt.2 hc).trans hk⟩,h.len,h.most⟩
theorem QuAt.below(h:QuAt w g c m L lo)(hb:Below w.heap.size w w'):QuAt w' g c m L lo:=
 h.tu (F:=fun _=>False) (Tu.of_below hb) id id
theorem QuAt.belowB{B:Nat}(h:QuAt w g c m L lo)(hb:Below B w w')(hg:g<B)(hc:c<B):QuAt w' g c m L lo:=by
 obtain⟨s,r,hk⟩:=h.chn
 exact⟨h.blk.belowB hb hg,⟨s,r,(hb.block c hc).trans hk⟩,h.len,h.most⟩
theorem QuAt.ne(h:QuAt w g c m L lo):g≠c:=fun e=>by
 obtain⟨s,r,hk⟩:=h.chn
 have:=h.blk
 unfold BkA at this
 rw[e,hk]at this
 cases this
theorem Zml(w:World)(c cap:Nat)(buf:Array Value)(cl:Bool)(s r:Nat)(tm:Bool):Tu (fun j=>j=c) w (w.setChan c cap buf cl s r tm):=
 ⟨rfl,rfl,rfl,by rw[size_setChan];exact Nat.le_refl _,fun k _ hk=>by simp only[World.setChan];rw[Array.getElem?_setIfInBounds_ne (fun e=>hk e.symm)]⟩
theorem Tu.wide{F G:Nat→Prop}(h:Tu F w w')(hs:∀j,F j→G j):Tu G w w':=⟨h.os,h.tape,h.output,h.size,fun k hk hn=>h.block k hk fun hf=>hn (hs k hf)⟩
theorem QuAt.chan{L':List ByteArray}(h:QuAt w g c m L lo)(hl:L'.length≤m)(s r:Nat):QuAt (w.setChan c m (Zax L').toArray false s r false) g c m L' lo:=
 ⟨h.blk.tu (Zml _ _ _ _ _ _ _ _) h.ne,⟨s,r,heap_setChan _ _ _ _ _ _ _ _ h.lt.2⟩,hl,h.most⟩
theorem QuAt.lost(h:QuAt w g c m L lo)(lo':Nat):QuAt (w.setCell ⟨g,1,none⟩ (.int .i64 (lo':Int))) g c m L lo':=by
 obtain⟨s,r,hk⟩:=h.chn
 exact⟨h.blk.set 1 _,⟨s,r,((Zav w g 1 _).block c h.lt.2 (fun e=>h.ne e.symm)).trans hk⟩,h.len,h.most⟩
theorem Zc4(L:List ByteArray):(Zax L).toArray.size=L.length:=by rw[List.size_toArray,Zjf]
theorem Zrk(n:Int)(w:World):(Instr.makeChan 248 (.int .i64 (capN n:Int))).run Tryz.prog w=.ok (.chan (some w.heap.size)) (w.alloc (.chan (capN n) #[] false 0 0 false)):=by
 obtain⟨i0,hi,hz0,hz1,hz2⟩:=info_parts Ze7
 have:=ZfQ n
 exact run_makeChan (P:=Tryz.prog) (w:=w) Tryz.underlying248 hi .i64 (capN n) (by omega) (by rw[hz2];omega)
theorem ZqO(n:Int)(w:World):
  Calls Tryz.prog 121 #[.int .i64 n] w fun e w'=> ∃g c,e=.returned (.pointer (some ⟨g,0,none⟩))∧w.heap.size≤g∧w.heap.size≤c∧QuAt w' g c (capN n) [] 0∧Below w.heap.size w w':=by
 have h1:=Zje n
 have h2:=ZiY n
 have h3:=Zrk n
 have hm:=ZfQ n
 generalize capN n=m at*
 go_enter Tryz.func121,Tryz.ntmps121
 go_wp2
 go_ret
 have hb:Below w.heap.size w ((w.alloc (.chan m #[] false 0 0 false)).alloc (.cells #[.chan (some w.heap.size),.int .i64 0] 250)):=
  ((Below.refl _ _).alloc (Nat.le_refl _) _).trans (((Below.refl _ _).alloc (Nat.le_refl _) _).mono (by simp))
 refine⟨_,w.heap.size,rfl,by simp,Nat.le_refl _,⟨?_,⟨0,0,?_⟩,Nat.zero_le _,hm⟩,hb⟩
 ·have:=Zag 250 (w.alloc (.chan m #[] false 0 0 false)) [.chan (some w.heap.size),.int .i64 0]
  simpa using this
 ·rw[Below.heap_alloc _ _ _ (by simp)]
  exact heap_alloc_new w _
theorem ZeR(g c m lo:Nat)(L:List ByteArray)(w:World)(h:QuAt w g c m L lo):Calls Tryz.prog 146 #[.pointer (some ⟨g,0,none⟩)] w fun e w'=>e=.returned (.int .i64 (L.length:Int))∧w'=w:=by
 have h0:=h.blk.at 0 rfl
 obtain⟨s,r,hc⟩:=h.chn
 have hl:=run_len_chan (P:=Tryz.prog) (w:=w) 248 3 Tryz.underlying248 hc
 rw[Zc4]at hl
 generalize L.length=n at*
 clear hc h
 go_enter Tryz.func146,Tryz.ntmps146
 go_wp2
 go_ret
 exact⟨rfl,rfl⟩
theorem ZmO(L:List ByteArray)(s:ByteArray):(Zax L).toArray.push (.string s)=(Zax (L++[s])).toArray:=by simp[Zax]
theorem Zpi(s:ByteArray)(L:List ByteArray):(Zax (s::L)).toArray.extract 1 (Zax (s::L)).toArray.size=(Zax L).toArray:=by
 simp[Zax,List.take_of_length_le]
theorem Zs0 (g c m lo : Nat) (L : List ByteArray) (s : ByteArray) (w : World) (h : QuAt w g c m L lo) (hs : s.size ≤ 1048576) (hr : L.length < m) :
    Calls Tryz.prog 83 #[.pointer (some ⟨g, 0, none⟩), .string s] w fun e w' => e = .returned (.bool true) ∧ QuAt w' g c m (L ++ [s]) lo ∧ Tu (quF g c) w w' := by
  have h0 := h.blk.at 0 rfl
  have H := hide h
  have HS := hide hs
  clear h hs
  refine ZdF Tryz.func83 rfl (fun _ h => by cases h.1) ?_
  simp only [Tryz.ntmps83, List.size_toArray, List.length_cons, List.length_nil, Nat.reduceAdd, Nat.reduceSub, Array.replicate_succ,
     Array.replicate_zero, List.push_toArray, List.append_toArray, List.nil_append, List.cons_append]
  refine ZbG (fun K hK => ?_)
  go_wp2
  refine ZbG (fun K hK => ?_)
  go_wp2
  refine ZbG (fun K hK => ?_)
  go_wp2_with (first
    | (go_at_call 89; refine (Zbp _ _ (unhide HS)).mono ?_; rintro e w1 ⟨rfl, hb1⟩; have HB := hide hb1; clear hb1)
    | fail)
  have H1 := hide ((unhide H).below (unhide HB))
  obtain ⟨n, r, hc⟩ := (unhide H1).chn
  refine Zi6 (ZhK rfl (ZhW (z := .string ⟨#[]⟩) (v := .string s) (c := c) (by simp [go_sem, execOp, scase, Act.eval]) hc (by rw [Zc4]; exact hr)) ?_)
  rw [ZmO]
  have H2 := hide ((unhide H1).chan (L' := L ++ [s]) (by rw [List.length_append, List.length_singleton]; omega) (n + 1) r)
  have HT := hide (Tu.after (unhide HB) ((Zml w1 c m (Zax (L ++ [s])).toArray false (n + 1) r false).wide (G := quF g c) fun j e => .inr e))
  clear hc
  generalize w1.setChan c m (Zax (L ++ [s])).toArray false (n + 1) r false = w2 at *
  go_wp2
  refine Zna ?_
  go_wp2
  go_ret
  exact ⟨rfl, unhide H2, unhide HT⟩
theorem Zu9 (g c m lo : Nat) (L : List ByteArray) (s : ByteArray) (w : World) (h : QuAt w g c m L lo) (hs : s.size ≤ 1048576) (hr : m ≤ L.length) (hlo : lo ≤ 1099511627776) :
    Calls Tryz.prog 83 #[.pointer (some ⟨g, 0, none⟩), .string s] w fun e w' => e = .returned (.bool false) ∧ QuAt w' g c m L (lo + 1) ∧ Tu (quF g c) w w' := by
  have h0 := h.blk.at 0 rfl
  have H := hide h
  have HS := hide hs
  clear h hs
  refine ZdF Tryz.func83 rfl (fun _ h => by cases h.1) ?_
  simp only [Tryz.ntmps83, List.size_toArray, List.length_cons, List.length_nil, Nat.reduceAdd, Nat.reduceSub, Array.replicate_succ,
     Array.replicate_zero, List.push_toArray, List.append_toArray, List.nil_append, List.cons_append]
  refine ZbG (fun K hK => ?_)
  go_wp2
  refine ZbG (fun K hK => ?_)
  go_wp2
  refine ZbG (fun K hK => ?_)
  go_wp2_with (first
    | (go_at_call 89; refine (Zbp _ _ (unhide HS)).mono ?_; rintro e w1 ⟨rfl, hb1⟩; have HB := hide hb1; clear hb1)
    | fail)
  have H1 := hide ((unhide H).below (unhide HB))
  obtain ⟨n, r, hc⟩ := (unhide H1).chn
  refine Zi6 (ZhK rfl (ZhV (z := .string ⟨#[]⟩) (v := .string s) (c := c) (by simp [go_sem, execOp, scase, Act.eval]) hc (by rw [Zc4]; exact hr)) ?_)
  clear hc
  go_wp2
  refine Zna ?_
  have h1 := (unhide H1).blk.at 1 rfl
  have hf := (unhide H1).blk.frz 1
  have hw : IntKind.i64.wrap ((lo : Int) + 1) = (lo : Int) + 1 := by rw [IntKind.wrap_i64]; omega
  go_wp2
  go_ret
  have h3 := (unhide H1).lost (lo + 1)
  rw [Int.natCast_add] at h3
  exact ⟨rfl, h3, Tu.after (unhide HB) ((Zav w1 g 1 _).wide (G := quF g c) fun j e => .inl e)⟩
theorem Zo4 (g c m lo : Nat) (s : ByteArray) (L : List ByteArray) (w : World) (h : QuAt w g c m (s :: L) lo) :
    Calls Tryz.prog 113 #[.pointer (some ⟨g, 0, none⟩)] w fun e w' => e = .returned (.tuple #[.string s, .bool true]) ∧ QuAt w' g c m L lo ∧ Tu (quF g c) w w' := by
  have h0 := h.blk.at 0 rfl
  have H := hide h
  clear h
  refine ZdF Tryz.func113 rfl (fun _ h => by cases h.1) ?_
  simp only [Tryz.ntmps113, List.size_toArray, List.length_cons, List.length_nil, Nat.reduceAdd, Nat.reduceSub, Array.replicate_succ,
     Array.replicate_zero, List.push_toArray, List.append_toArray, List.nil_append, List.cons_append]
  refine ZbG (fun K hK => ?_)
  go_wp2
  refine ZbG (fun K hK => ?_)
  go_wp2
  refine ZbG (fun K hK => ?_)
  go_wp2
  obtain ⟨n, r, hc⟩ := (unhide H).chn
  refine Zi6 (ZhK rfl (ZhU (z := .string ⟨#[]⟩) (c := c) (by simp [go_sem, execOp, rcase, Act.eval]) hc (by rw [Zc4]; exact Nat.succ_pos _)) ?_)
  rw [Zpi]
  have hd : (Zax (s :: L)).toArray.getD 0 undef = .string s := by simp [Zax]
  rw [hd]
  have H2 := hide ((unhide H).chan (L' := L) (by have := (unhide H).len; rw [List.length_cons] at this; omega) n (r + 1))
  have HT := hide ((Zml w c m (Zax L).toArray false n (r + 1) false).wide (G := quF g c) fun j e => .inr e)
  clear hc hd
  generalize w.setChan c m (Zax L).toArray false n (r + 1) false = w2 at *
  go_wp2
  refine Zna ?_
  go_wp2
  go_ret2
  exact ⟨rfl, unhide H2, unhide HT⟩
end Go.Proofs.YtlhhinlghhjghaaGreatDoor
namespace Go.Proofs.YtlhhinlghhjghaaGreatDoor
open Go.RowKit
set_option linter.unusedVariables false
set_option linter.unusedSimpArgs false
set_option maxRecDepth 4000
set_option maxHeartbeats 8000000
def wiZ(x a b:Int):Int:=min (max x a) b
theorem ZxX(x:Int){a b:Int}(h:a≤b):a≤wiZ x a b∧wiZ x a b≤b:=by unfold wiZ;omega
theorem ZAt{x a b:Int}(h1:a≤x)(h2:x≤b):wiZ x a b=x:=by unfold wiZ;omega
structure BtAt(w:World)(g:Nat)(M T L:Int):Prop where
 blk:BkA 252 w g [.int .i64 M,.int .i64 T,.int .i64 L]
 mil:0≤M∧M≤1000000
 top:1000≤T∧T≤256000
 lev:0≤L∧L≤T
theorem BtAt.tu{F:Nat→Prop}{w w':World}{g:Nat}{M T L:Int}(h:BtAt w g M T L)(ht:Tu F w w')(hF:¬F g):BtAt w' g M T L:=⟨h.blk.tu ht hF,h.mil,h.top,h.lev⟩
theorem Zhv(x a b:Int)(w:World):Calls Tryz.prog 144 #[.int .i64 x,.int .i64 a,.int .i64 b] w fun e w'=>e=.returned (.int .i64 (wiZ x a b))∧w'=w:=by
 have hmx:=Zfl x a
 have hmn:=ZgB (max x a) b
 unfold wiZ
 generalize max x a=m at*
 generalize min m b=n at*
 go_enter Tryz.func144,Tryz.ntmps144
 go_wp2
 go_ret
 exact⟨rfl,rfl⟩
theorem ZtB(m k:Int)(w:World):
  Calls Tryz.prog 173 #[.int .i64 m,.int .i64 k] w fun e w'=>e=.returned (.pointer (some ⟨w.heap.size,0,none⟩))∧BtAt w' w.heap.size (wiZ m 0 1000000) (1000*wiZ k 1 256) (1000*wiZ k 1 256)∧Below w.heap.size w w':=by
 have h1:=ZxX k (show(1:Int)≤256 by decide)
 have h2:=ZxX m (show(0:Int)≤1000000 by decide)
 have HF1:Hid True:=hide trivial
 have H1:=Zhv k 1 256
 have H2:=Zhv m 0 1000000
 generalize wiZ k 1 256=x at*
 generalize wiZ m 0 1000000=y at*
 go_enter Tryz.func173,Tryz.ntmps173
 go_wp2_with (first
  |(clear HF1;go_at_call 144;refine(H1 _).mono ?_;rintro e w1 ⟨rfl,hw1⟩;obtain rfl:=hw1.symm;clear hw1)
  |(go_at_call 144;refine(H2 _).mono ?_;rintro e w1 ⟨rfl,hw1⟩;obtain rfl:=hw1.symm;clear hw1)
  |fail)
 go_ret
 exact⟨rfl,⟨Zag 252 _ [.int .i64 y,.int .i64 (1000*x),.int .i64 (1000*x)],h2,by omega,by omega⟩,alloc_low _ _⟩
theorem ZtD(g:Nat)(M T L:Int)(w:World)(h:BtAt w g M T L)(hl:L<1000):Calls Tryz.prog 167 #[.pointer (some ⟨g,0,none⟩)] w fun e w'=>e=.returned (.bool false)∧w'=w:=by
 have h2:=h.blk.at 2 rfl
 go_enter Tryz.func167,Tryz.ntmps167
 go_wp2
 go_ret
 exact⟨rfl,rfl⟩
theorem ZqG(g:Nat)(M T L:Int)(w:World)(h:BtAt w g M T L)(hl:1000≤L):Calls Tryz.prog 167 #[.pointer (some ⟨g,0,none⟩)] w fun e w'=>e=.returned (.bool true)∧BtAt w' g M T (L-1000)∧Tu (fun j=>j=g) w w':=by
 have h2:=h.blk.at 2 rfl
 have hf:=h.blk.frz 2
 have hb:=h.lev
 have ht:=h.top
 have H:=hide h
 clear h
 go_enter Tryz.func167,Tryz.ntmps167
 go_wp2
 go_ret
 exact⟨rfl,⟨(unhide H).blk.set 2 _,(unhide H).mil,ht,by omega⟩,Zav _ _ _ _⟩
theorem Zxq(m k:Int)(w:World):
  Calls Tryz.prog 173 #[.int .i64 m,.int .i64 k] w fun e w'=> ∃g,e=.returned (.pointer (some ⟨g,0,none⟩))∧w.heap.size≤g∧BtAt w' g (wiZ m 0 1000000) (1000*wiZ k 1 256) (1000*wiZ k 1 256)∧Below w.heap.size w w':=
 (ZtB m k w).mono fun e w' ⟨h1,h2,h3⟩=>⟨_,h1,Nat.le_refl _,h2,h3⟩
end Go.Proofs.YtlhhinlghhjghaaGreatDoor
namespace Go.Proofs.YtlhhinlghhjghaaGreatDoor
set_option linter.unusedVariables false
set_option linter.unusedSimpArgs false
set_option maxRecDepth 4000
set_option maxHeartbeats 8000000
def mgF(x:Nat):Nat:=if x<4503599627370496 then x else 4503599627370496+x%4503599627370496
def exF(x:Nat):Nat:=if x<4503599627370496 then 0 else x/4503599627370496-1
theorem ZsL:Ieee.double.signWeight=9223372036854775808:=rfl
theorem Ztf:Ieee.double.binade=4503599627370496:=rfl
theorem ZrJ:Ieee.double.infRung=9218868437227405312:=rfl
theorem ZgR:Ieee.double.leastPlace= -1074:=rfl
theorem ZcG(x:Nat)(h:x<9218868437227405312):Ieee.double.read x=.number false (mgF x) (-1074+(exF x:Int)):=by
 have h1:x/9223372036854775808%2=0:=by omega
 have h2:x%9223372036854775808=x:=by omega
 simp only[Ieee.Format.read,ZsL,Ztf,ZrJ,ZgR,h1,h2,mgF,exF]
 by_cases hb:x<4503599627370496
 ·simp[hb]
 ·simp[hb,h]
theorem ZxJ(x:Nat)(h:9223372036854775808≤x)(h2:x<18446744073709551616):
  (∃m i,Ieee.double.read x=.number true m i)∨Ieee.double.read x=.infinity true∨∃t,Ieee.double.read x=.nan true t:=by
 have h1:x/9223372036854775808%2=1:=by omega
 simp only[Ieee.Format.read,ZsL,Ztf,ZrJ,ZgR,h1]
 split
 ·exact .inl ⟨_,_,rfl⟩
 ·split
  ·exact .inl ⟨_,_,rfl⟩
  ·split
   ·exact .inr (.inl rfl)
   ·exact .inr (.inr ⟨_,rfl⟩)
theorem ZvX(x:Nat)(h:9218868437227405312<x)(h2:x<9223372036854775808):∃t,Ieee.double.read x=.nan false t:=by
 have h1:x/9223372036854775808%2=0:=by omega
 have h3:x%9223372036854775808=x:=by omega
 simp only[Ieee.Format.read,ZsL,Ztf,ZrJ,ZgR,h1,h3]
 rw[if_neg (by omega),if_neg (by omega),if_neg (by omega)]
 exact⟨_,rfl⟩
theorem ZA0(x:Nat):x=exF x*4503599627370496+mgF x∧mgF x<9007199254740992∧(0<exF x→4503599627370496≤mgF x):=by
 unfold mgF exF
 by_cases h:x<4503599627370496
 ·rw[if_pos h,if_pos h];omega
 ·rw[if_neg h,if_neg h];omega
theorem Zmd(n:Nat)(h:0<n):2≤2^n:=by
 obtain⟨m,rfl⟩:∃m,n=m+1:=⟨n-1,by omega⟩
 have:=Nat.two_pow_pos m
 rw[Nat.pow_succ];omega
theorem Zg2(a b:Nat):compare (a:Int) (b:Int)=compare a b:=by
 rcases Nat.lt_trichotomy a b with h|h|h
 ·rw[Nat.compare_eq_lt.2 h,Int.compare_eq_lt.2 (by omega)]
 ·subst h;simp
 ·rw[Nat.compare_eq_gt.2 h,Int.compare_eq_gt.2 (by omega)]
theorem Zc8(x y:Nat)(hx:x<9218868437227405312)(hy:y<9218868437227405312):Ieee.double.order x y=some (compare x y):=by
 obtain⟨ex,mx,gx⟩:=ZA0 x
 obtain⟨ey,my,gy⟩:=ZA0 y
 rw[Ieee.Format.order,ZcG x hx,ZcG y hy]
 simp only[Ieee.Datum.order,Ieee.signed,Bool.false_eq_true,if_false,Nat.shiftLeft_eq,Zg2]
 congr 1
 generalize exF x=a at*
 generalize exF y=c at*
 generalize mgF x=m at*
 generalize mgF y=n at*
 rcases Nat.lt_trichotomy a c with h|h|h
 ·have e1:(-1074+(a:Int)-min (-1074+(a:Int)) (-1074+(c:Int))).toNat=0:=by omega
  have e2:(-1074+(c:Int)-min (-1074+(a:Int)) (-1074+(c:Int))).toNat=c-a:=by omega
  rw[e1,e2]
  have:=gy (by omega)
  have p2:=Zmd (c-a) (by omega)
  have:4503599627370496*2≤n*2^(c-a):=Nat.mul_le_mul this p2
  have l1:m*2^0<n*2^(c-a):=by omega
  have l2:x<y:=by omega
  rw[Nat.compare_eq_lt.2 l1,Nat.compare_eq_lt.2 l2]
 ·subst h
  have e1:(-1074+(a:Int)-min (-1074+(a:Int)) (-1074+(a:Int))).toNat=0:=by omega
  rw[e1]
  rcases Nat.lt_trichotomy m n with l|l|l
  ·rw[Nat.compare_eq_lt.2 (by omega),Nat.compare_eq_lt.2 (by omega)]
  ·rw[Nat.compare_eq_eq.2 (by omega),Nat.compare_eq_eq.2 (by omega)]
  ·rw[Nat.compare_eq_gt.2 (by omega),Nat.compare_eq_gt.2 (by omega)]
 ·have e1:(-1074+(a:Int)-min (-1074+(a:Int)) (-1074+(c:Int))).toNat=a-c:=by omega
  have e2:(-1074+(c:Int)-min (-1074+(a:Int)) (-1074+(c:Int))).toNat=0:=by omega
  rw[e1,e2]
  have:=gx (by omega)
  have p2:=Zmd (a-c) (by omega)
  have:4503599627370496*2≤m*2^(a-c):=Nat.mul_le_mul this p2
  have l1:n*2^0<m*2^(a-c):=by omega
  have l2:y<x:=by omega
  rw[Nat.compare_eq_gt.2 l1,Nat.compare_eq_gt.2 l2]
def gtB(b:Nat):Bool:=decide (0<b∧b≤9218868437227405312)
theorem ZAv(b:Nat)(hb:b<18446744073709551616):(Ieee.double.order b 0==some .gt)=gtB b:=by
 rcases Nat.lt_or_ge b 9218868437227405312 with h|h
 ·rw[Zc8 b 0 h (by decide)]
  by_cases h0:b=0
  ·subst h0;rfl
  ·rw[Nat.compare_eq_gt.2 (by omega)]
   exact(decide_eq_true (by omega:0<b∧b≤9218868437227405312)).symm
 ·rcases Nat.lt_or_ge b 9223372036854775808 with h2|h2
  ·by_cases he:b=9218868437227405312
   ·subst he;rfl
   ·obtain⟨t,ht⟩:=ZvX b (by omega) h2
    rw[Ieee.Format.order,ht]
    exact(decide_eq_false (by omega:¬(0<b∧b≤9218868437227405312))).symm
  ·rw[Ieee.Format.order,ZcG 0 (by decide)]
   have hg:gtB b=false:=decide_eq_false (by omega)
   rw[hg]
   rcases ZxJ b h2 hb with⟨m,i,hr⟩|hr|⟨t,hr⟩
   ·rw[hr]
    simp only[Ieee.Datum.order,Ieee.signed,if_true,Bool.false_eq_true,if_false,Nat.shiftLeft_eq,show mgF 0=0 from rfl,Nat.zero_mul]
    generalize m*2^_=k
    rcases Nat.eq_zero_or_pos k with h0|h0
    ·subst h0;rfl
    ·rw[Int.compare_eq_lt.2 (by simp;omega)];rfl
   ·rw[hr];rfl
   ·rw[hr];rfl
theorem ZBt(b:Nat)(h:gtB b=true):(Ieee.double.order b 4652007308841189376==some .gt||Ieee.double.order b 4652007308841189376==some .eq)=decide (4652007308841189376≤b):=by
 have hb:0<b∧b≤9218868437227405312:=of_decide_eq_true h
 by_cases he:b=9218868437227405312
 ·subst he;rfl
 ·rw[Zc8 b _ (by omega) (by decide)]
  rcases Nat.lt_trichotomy b 4652007308841189376 with l|l|l
  ·rw[Nat.compare_eq_lt.2 l,decide_eq_false (by omega)];rfl
  ·rw[Nat.compare_eq_eq.2 l,decide_eq_true (by omega)];rfl
  ·rw[Nat.compare_eq_gt.2 l,decide_eq_true (by omega)];rfl
def milN(b:Nat):Nat:=if b<4503599627370496 then 0 else(4503599627370496+b%4503599627370496)*1000/2^(1075-b/4503599627370496)
theorem ZrL(a b:Nat)(h:a≤b)(hb:b<4652007308841189376):milN a≤milN b:=by
 unfold milN
 by_cases ha:a<4503599627370496
 ·rw[if_pos ha];exact Nat.zero_le _
 ·rw[if_neg ha,if_neg (by omega)]
  rcases Nat.lt_or_ge (a/4503599627370496) (b/4503599627370496)with l|l
  ·have hB:b/4503599627370496≤1032:=by omega
   have e:1075-a/4503599627370496=(1075-b/4503599627370496)+(b/4503599627370496-a/4503599627370496):=by omega
   have p2:=Zmd (b/4503599627370496-a/4503599627370496) (by omega)
   rw[e,Nat.pow_add,Nat.mul_comm (2^(1075-b/4503599627370496)),←Nat.div_div_eq_div_mul]
   refine Nat.div_le_div_right ?_
   refine Nat.le_trans (Nat.div_le_div_left p2 (by decide)) ?_
   omega
  ·have e:a/4503599627370496=b/4503599627370496:=by have:=Nat.div_le_div_right (c:=4503599627370496) h;omega
   rw[e]
   refine Nat.div_le_div_right ?_
   have:=Nat.div_add_mod a 4503599627370496
   have:=Nat.div_add_mod b 4503599627370496
   omega
theorem Zz2(b:Nat)(hb:b<4652007308841189376):milN b≤999999:=by
 refine Nat.le_trans (ZrL b 4652007308841189375 (by omega) (by decide)) ?_
 exact Nat.le_of_eq (by decide)
def milZ(b:Nat):Nat:=if gtB b then(if 4652007308841189376≤b then 1000000 else milN b)else 0
theorem Zyv(b:Nat):milZ b≤1000000:=by
 unfold milZ
 split
 ·split
  ·exact Nat.le_refl _
  ·exact Nat.le_trans (Zz2 b (by omega)) (by decide)
 ·decide
theorem Zy4(n k:Nat)(h1:2^k≤n)(h2:n<2^(k+1)):n.log2=k:=by
 have hn:n≠0:=by have:=Nat.two_pow_pos k;omega
 have a:=(Nat.le_log2 hn).2 h1
 have b:=(Nat.log2_lt hn).2 h2
 omega
theorem Zwd(n:Nat):Ieee.Toward.cut .zero false n 0=n:=by
 simp[Ieee.Toward.cut]
theorem Zys(b:Nat)(h0:0<b)(h:b<4503599627370496):∃y,floatBits .mul .f64 b 4841369599423283200=some y∧y≤238690780250636288:=by
 refine⟨Ieee.double.nearest false (b*4503599627370496) (-1074),?_,?_⟩
 ·show Ieee.double.mul b 4841369599423283200=_
  rw[Ieee.Format.mul,ZcG b (by omega),ZcG 4841369599423283200 (by decide)]
  have e1:mgF b=b:=by rw[mgF,if_pos h]
  have e2:exF b=0:=by rw[exF,if_pos h]
  rw[e1,e2,show mgF 4841369599423283200=4503599627370496 from rfl,show exF 4841369599423283200=1074 from rfl]
  rfl
 ·have hn:b*4503599627370496≠0:=by omega
  have l1:52≤(b*4503599627370496).log2:=(Nat.le_log2 hn).2 (by show 2^52≤_;omega)
  have l2:(b*4503599627370496).log2<104:=(Nat.log2_lt hn).2 (by show _<2^104;omega)
  have l3:b*4503599627370496<2^((b*4503599627370496).log2+1):=Nat.lt_log2_self
  generalize b*4503599627370496=n at*
  unfold Ieee.Format.nearest
  rw[if_neg hn]
  simp only[ZgR,Ztf,ZrJ,show Ieee.double.fractionBits=52 from rfl]
  have hg:1<<<min (n.log2-52) (n.log2+2)=2^(n.log2-52):=by rw[Nat.min_eq_left (by omega),Nat.shiftLeft_eq,Nat.one_mul]
  have hlow:n/2^(n.log2-52)<9007199254740992:=by
   refine Nat.div_lt_of_lt_mul (Nat.lt_of_lt_of_eq l3 ?_)
   rw[show(9007199254740992:Nat)=2^53 from rfl,←Nat.pow_add]
   exact congrArg _ (by omega)
  have e1:max (-1074+(n.log2:Int)-((52:Nat):Int)) (-1074)= -1074+(n.log2:Int)-52:=by omega
  rw[e1]
  have e2:(-1074-(-1074+(n.log2:Int)-52)).toNat=0:=by omega
  have e3:(-1074+(n.log2:Int)-52 - -1074).toNat=n.log2-52:=by omega
  rw[e2,e3,Nat.shiftLeft_zero]
  have hk:Ieee.Toward.cut .even false n (n.log2-52)≤9007199254740992:=by
   simp only[Ieee.Toward.cut,hg]
   refine Nat.le_trans (Nat.add_le_add_left (Bool.toNat_le _) _) ?_
   omega
  rw[Ieee.Format.word]
  simp only[Bool.false_eq_true,if_false]
  refine Nat.le_trans (Nat.min_le_left _ _) ?_
  omega
theorem Zxt(m:Nat)(h:m<4503599627370496):floatBits .mul .f64 (4602678819172646912+m) 4845873199050653696=some (4841369599423283200+m):=by
 show Ieee.double.mul _ 4845873199050653696=_
 rw[Ieee.Format.mul,ZcG (4602678819172646912+m) (by omega),ZcG 4845873199050653696 (by decide)]
 have e1:mgF (4602678819172646912+m)=4503599627370496+m:=by rw[mgF,if_neg (by omega)];omega
 have e2:exF (4602678819172646912+m)=1021:=by rw[exF,if_neg (by omega)];omega
 rw[e1,e2,show mgF 4845873199050653696=4503599627370496 from rfl,show exF 4845873199050653696=1075 from rfl]
 show some (Ieee.double.nearest false ((4503599627370496+m)*4503599627370496) (-52))=_
 have hl:((4503599627370496+m)*4503599627370496).log2=104:=Zy4 _ _ (by show 2^104≤_;omega) (by show _<2^105;omega)
 unfold Ieee.Format.nearest
 rw[if_neg (by omega),hl]
 have hc:Ieee.Toward.cut .even false ((4503599627370496+m)*4503599627370496) 52=4503599627370496+m:=by
  have hg:1<<<min 52 (104+2)=4503599627370496:=rfl
  simp only[Ieee.Toward.cut,hl,hg]
  rw[Nat.mul_div_cancel _ (by decide),Nat.mul_mod_left]
  rfl
 simp only[ZgR,Ztf,ZrJ,show Ieee.double.fractionBits=52 from rfl]
 rw[show max (-52+((104:Nat):Int)-((52:Nat):Int)) (-1074)=0 from rfl,show(-52-(0:Int)).toNat=0 from rfl,show((0:Int) - -52).toNat=52 from rfl,show((0:Int) - -1074).toNat=1074 from rfl,Nat.shiftLeft_zero,hc,Ieee.Format.word]
 simp only[Bool.false_eq_true,if_false]
 congr 1
 omega
theorem Zwb(m:Nat)(h:m<4503599627370496):floatToIntVal .f64 (4841369599423283200+m) .u64=some ((4503599627370496+m:Nat):Int):=by
 have e1:mgF (4841369599423283200+m)=4503599627370496+m:=by rw[mgF,if_neg (by omega)];omega
 have e2:exF (4841369599423283200+m)=1074:=by rw[exF,if_neg (by omega)];omega
 have hd:FloatKind.f64.decode (4841369599423283200+m)=.number false (4503599627370496+m) 0:=by
  show Ieee.double.read _=_
  rw[ZcG _ (by omega),e1,e2]
  rfl
 have ht:(Ieee.Datum.number false (4503599627370496+m) 0).toInt .zero=some ((4503599627370496+m:Nat):Int):=by
  show some (Ieee.signed false (Ieee.Toward.cut .zero false ((4503599627370496+m)<<<(0:Int).toNat) (-(0:Int)).toNat) 0)=_
  rw[show(0:Int).toNat=0 from rfl,show(-(0:Int)).toNat=0 from rfl,Nat.shiftLeft_zero,Zwd,Ieee.signed]
  simp only[Bool.false_eq_true,if_false,Nat.shiftLeft_zero]
 rw[floatToIntVal,hd,ht]
 simp only
 rw[if_pos]
 have a:IntKind.u64.min=0:=rfl
 have b:IntKind.u64.max=18446744073709551615:=rfl
 omega
theorem ZmE(k x:Nat):x&&&(2^k-1)=x%2^k:=Nat.and_two_pow_sub_one_eq_mod x k
theorem ZtM(b:Nat)(h:b<9223372036854775808):bits .andNot .u64 (b:Int) 9223372036854775808=(b:Int):=by
 have:=u64_andNot_nat b 9223372036854775808 (by omega) (by decide)
 rw[show((9223372036854775808:Nat):Int)=9223372036854775808 from rfl]at this
 rw[this,show 18446744073709551615-9223372036854775808=2^63-1 from rfl,ZmE,Nat.mod_eq_of_lt (by omega)]
theorem Zxu(y:Nat)(h:y<9223372036854775808):bits .andNot .u64 (y:Int) 9218868437227405312=((y%4503599627370496:Nat):Int):=by
 have:=u64_andNot_nat y 9218868437227405312 (by omega) (by decide)
 rw[show((9218868437227405312:Nat):Int)=9218868437227405312 from rfl]at this
 rw[this,show 18446744073709551615-9218868437227405312=2^63*1+(2^52-1) from rfl,Nat.two_pow_add_eq_or_of_lt (by decide),Nat.and_or_distrib_left,ZmE]
 have:y&&&2^63*1=0:=by
  rw[Nat.mul_one]
  apply Nat.eq_of_testBit_eq
  intro i
  rw[Nat.testBit_and,Nat.zero_testBit,Nat.testBit_two_pow]
  by_cases hi:63=i
  ·subst hi
   rw[Nat.testBit_lt_two_pow (by omega:y<2^63)];rfl
  ·rw[decide_eq_false hi,Bool.and_false]
 rw[this,Nat.zero_or]
theorem ZtE(m:Nat)(h:m<4503599627370496):bits .or .u64 (m:Int) 4602678819172646912=((4602678819172646912+m:Nat):Int):=by
 have:=u64_or_nat m 4602678819172646912 (by omega) (by decide)
 rw[show((4602678819172646912:Nat):Int)=4602678819172646912 from rfl]at this
 rw[this,show(4602678819172646912:Nat)=2^52*1022 from rfl,Nat.two_pow_add_eq_or_of_lt h,Nat.or_comm]
theorem Zsg(n:Nat)(h:n<2048):bits .and .u64 (n:Int) 2047=(n:Int):=by
 have:=u64_and_nat n 2047 (by omega) (by decide)
 rw[show((2047:Nat):Int)=2047 from rfl]at this
 rw[this,show(2047:Nat)=2^11-1 from rfl,ZmE,Nat.mod_eq_of_lt (by omega)]
end Go.Proofs.YtlhhinlghhjghaaGreatDoor
namespace Go.Proofs.YtlhhinlghhjghaaGreatDoor
open Go.RowKit
set_option linter.unusedVariables false
set_option linter.unusedSimpArgs false
set_option maxRecDepth 4000
set_option maxHeartbeats 8000000
theorem Zkj(b:Nat)(w:World):(callFunc 274 #[.float .f64 b]).run Tryz.prog w=.ok (.value (.int .u64 b)) w:=by
 rw[run_callFunc_extern Tryz.func274 (by kernel_rfl) (by kernel_rfl) (by kernel_rfl) (e:=Extern.MathFloatBits.float64bits) (by kernel_rfl)]
 rfl
theorem Zlz(n:Nat)(w:World):(callFunc 275 #[.int .u64 n]).run Tryz.prog w=.ok (.value (.float .f64 n)) w:=by
 rw[run_callFunc_extern Tryz.func275 (by kernel_rfl) (by kernel_rfl) (by kernel_rfl) (e:=Extern.MathFloatBits.float64frombits) (by kernel_rfl)]
 rfl
theorem Zmb(b:Nat)(hb:b<9223372036854775808)(w:World):Calls Tryz.prog 308 #[.float .f64 b] w fun e w'=>e=.returned (.float .f64 b)∧w'=w:=by
 have h1:=Zkj b w
 have h2:=Zlz b w
 have h3:=ZtM b hb
 go_enter Tryz.func308,Tryz.ntmps308
 go_wp2
 go_ret
 exact⟨rfl,rfl⟩
theorem Zry(b:Nat)(hb:b<9218868437227405312)(w:World):Calls Tryz.prog 271 #[.float .f64 b,.int .i64 0] w fun e w'=>e=.returned (.bool false)∧w'=w:=by
 have h1:(FloatKind.f64.format.order b 9218868437227405311==some .gt)=false:=by
  show(Ieee.double.order b 9218868437227405311==some .gt)=false
  rw[Zc8 b _ hb (by decide)]
  rcases Nat.lt_or_ge b 9218868437227405311 with l|l
  ·rw[Nat.compare_eq_lt.2 l];rfl
  ·rw[Nat.compare_eq_eq.2 (by omega)];rfl
 go_enter Tryz.func271,Tryz.ntmps271
 go_wp2_with (first
  |(go_at_call 308;refine(Zmb b (by omega) _).mono ?_;rintro e w1 ⟨rfl,rfl⟩)
  |fail)
 go_ret
 exact⟨rfl,rfl⟩
theorem ZsS(b:Nat)(hb:b<9218868437227405312)(w:World):Calls Tryz.prog 272 #[.float .f64 b] w fun e w'=>e=.returned (.bool false)∧w'=w:=by
 have h1:(FloatKind.f64.format.order b b !=some .eq)=false:=by
  show(Ieee.double.order b b !=some .eq)=false
  rw[Zc8 b _ hb hb,Nat.compare_eq_eq.2 rfl];rfl
 go_enter Tryz.func272,Tryz.ntmps272
 go_wp2
 go_ret
 exact⟨rfl,rfl⟩
theorem Zvc(b:Nat)(hb:b<9218868437227405312)(h:4503599627370496≤b)(w:World):Calls Tryz.prog 273 #[.float .f64 b] w fun e w'=>e=.returned (.tuple #[.float .f64 b,.int .i64 0])∧w'=w:=by
 have h1:(FloatKind.f64.format.order b 4503599627370496==some .lt)=false:=by
  show(Ieee.double.order b 4503599627370496==some .lt)=false
  rw[Zc8 b _ hb (by decide)]
  rcases Nat.lt_or_ge 4503599627370496 b with l|l
  ·rw[Nat.compare_eq_gt.2 l];rfl
  ·rw[Nat.compare_eq_eq.2 (by omega)];rfl
 go_enter Tryz.func273,Tryz.ntmps273
 go_wp2_with (first
  |(go_at_call 308;refine(Zmb b (by omega) _).mono ?_;rintro e w1 ⟨rfl,rfl⟩)
  |fail)
 go_ret2
 exact⟨rfl,rfl⟩
theorem Zva(b y:Nat)(h:b<4503599627370496)(hy:floatBits .mul .f64 b 4841369599423283200=some y)(w:World):Calls Tryz.prog 273 #[.float .f64 b] w fun e w'=>e=.returned (.tuple #[.float .f64 y,.int .i64 (-52)])∧w'=w:=by
 have h1:(FloatKind.f64.format.order b 4503599627370496==some .lt)=true:=by
  show(Ieee.double.order b 4503599627370496==some .lt)=true
  rw[Zc8 b _ (by omega) (by decide),Nat.compare_eq_lt.2 h];rfl
 have h2:=run_float_arith (P:=Tryz.prog) w .mul 23 .f64 b 4841369599423283200 y hy
 go_enter Tryz.func273,Tryz.ntmps273
 go_wp2_with (first
  |(go_at_call 308;refine(Zmb b (by omega) _).mono ?_;rintro e w1 ⟨rfl,rfl⟩)
  |fail)
 go_ret2
 exact⟨rfl,rfl⟩
theorem ZnS(b y:Nat)(d:Int)(h0:0<b)(hb:b<9218868437227405312)(hy:y<9218868437227405312)(hd: -52≤d∧d≤0)
  (hn:∀w,Calls Tryz.prog 273 #[.float .f64 b] w fun e w'=>e=.returned (.tuple #[.float .f64 y,.int .i64 d])∧w'=w) (w:World):
  Calls Tryz.prog 235 #[.float .f64 b] w fun e w'=>e=.returned (.tuple #[.float .f64 (4602678819172646912+y%4503599627370496),.int .i64 (d+((y/4503599627370496:Nat):Int)-1022)])∧w'=w:=by
 have h1:(FloatKind.f64.format.order b 0==some .eq)=false:=by
  show(Ieee.double.order b 0==some .eq)=false
  rw[Zc8 b _ hb (by decide),Nat.compare_eq_gt.2 h0];rfl
 have h2:=Zkj y w
 have h3:=Zlz (4602678819172646912+y%4503599627370496) w
 have h4:=Zxu y (by omega)
 have h5:=ZtE (y%4503599627370496) (by omega)
 have h6:=Zsg (y/4503599627370496) (by omega)
 rw[show((4602678819172646912+y%4503599627370496:Nat):Int)=4602678819172646912+(y:Int)%4503599627370496 by omega]at h3 h5
 rw[show((y%4503599627370496:Nat):Int)=(y:Int)%4503599627370496 by omega]at h4 h5
 rw[show((y/4503599627370496:Nat):Int)=(y:Int)/4503599627370496 by omega]at h6
 have h7:0≤(y:Int)/4503599627370496:=by omega
 have h8:(y:Int)/4503599627370496≤2047:=by omega
 go_enter Tryz.func235,Tryz.ntmps235
 go_wp2_with (first
  |(go_at_call 271;refine(Zry b hb _).mono ?_;rintro e w1 ⟨rfl,rfl⟩)
  |(go_at_call 272;refine(ZsS b hb _).mono ?_;rintro e w1 ⟨rfl,rfl⟩)
  |(go_at_call 273;refine(hn _).mono ?_;rintro e w1 ⟨rfl,rfl⟩)
  |fail)
 go_ret2
 rw[show d+((y:Int)/4503599627370496-1023+1)=d+((y/4503599627370496:Nat):Int)-1022 by omega]
 exact⟨rfl,rfl⟩
theorem Znh(b f:Nat)(E:Int)(hn:∀w,Calls Tryz.prog 235 #[.float .f64 b] w fun e w'=>e=.returned (.tuple #[.float .f64 f,.int .i64 E])∧w'=w)(w:World):
  Calls Tryz.prog 201 #[.float .f64 b] w fun e w'=>e=.returned (.tuple #[.float .f64 f,.int .i64 E])∧w'=w:=by
 go_enter Tryz.func201,Tryz.ntmps201
 go_wp2_with (first
  |(go_at_call 235;refine(hn _).mono ?_;rintro e w1 ⟨rfl,rfl⟩)
  |fail)
 go_ret2
 exact⟨rfl,rfl⟩
theorem Zow(b m:Nat)(E:Int)(hm:m<4503599627370496)(hE: -1200≤E∧E≤53)
  (hn:∀w,Calls Tryz.prog 201 #[.float .f64 b] w fun e w'=>e=.returned (.tuple #[.float .f64 (4602678819172646912+m),.int .i64 E])∧w'=w) (w:World):
  Calls Tryz.prog 172 #[.float .f64 b] w fun e w'=>e=.returned (.int .i64 (((4503599627370496+m)*1000/2^min (53-E).toNat 64:Nat):Int))∧w'=w:=by
 have h1:=run_float_arith (P:=Tryz.prog) w .mul 23 .f64 _ 4845873199050653696 _ (Zxt m hm)
 have h2:=run_convert_float_int (P:=Tryz.prog) w 23 69 .f64 .u64 _ _ (by rw[Tryz.underlying23];rfl) Tryz.underlying69 (Zwb m hm)
 go_enter Tryz.func172,Tryz.ntmps172
 go_wp2_with (first
  |(go_at_call 201;refine(hn _).mono ?_;rintro e w1 ⟨rfl,rfl⟩)
  |fail)
 go_ret
 have hc:((4503599627370496+(m:Int))*1000/2^min (53-E).toNat 64)=(((4503599627370496+m)*1000/2^min (53-E).toNat 64:Nat):Int):=by
  generalize min (53-E).toNat 64=k
  rw[Int.natCast_ediv,Int.natCast_mul,Int.natCast_add,Int.natCast_pow];rfl
 have hl:(4503599627370496+m)*1000/2^min (53-E).toNat 64≤(4503599627370496+m)*1000:=Nat.div_le_self _ _
 rw[hc]
 generalize (4503599627370496+m)*1000/2^min (53-E).toNat 64=q at*
 rw[show wrap64 (q:Int)=q by unfold wrap64;omega]
 exact⟨rfl,rfl⟩
theorem Zq4(b:Nat)(h0:0<b)(hb:b<4652007308841189376)(w:World):Calls Tryz.prog 172 #[.float .f64 b] w fun e w'=>e=.returned (.int .i64 (milN b:Nat))∧w'=w:=by
 by_cases h:b<4503599627370496
 ·obtain⟨y,hy,hl⟩:=Zys b h0 h
  have hm:y%4503599627370496<4503599627370496:=Nat.mod_lt _ (by decide)
  refine(Zow b (y%4503599627370496) (-52+((y/4503599627370496:Nat):Int)-1022) hm (by omega) (Znh b _ _ (ZnS b y (-52) h0 (by omega) (by omega) (by omega) (Zva b y h hy))) w).mono ?_
  rintro e w' ⟨rfl,rfl⟩
  rw[milN,if_pos h,show min (53-(-52+((y/4503599627370496:Nat):Int)-1022)).toNat 64=64 by omega,Nat.div_eq_of_lt (by omega)]
  exact⟨rfl,rfl⟩
 ·have hm:b%4503599627370496<4503599627370496:=Nat.mod_lt _ (by decide)
  refine(Zow b (b%4503599627370496) (0+((b/4503599627370496:Nat):Int)-1022) hm (by omega) (Znh b _ _ (ZnS b b 0 h0 (by omega) (by omega) (by omega) (Zvc b (by omega) (by omega)))) w).mono ?_
  rintro e w' ⟨rfl,rfl⟩
  rw[milN,if_neg h]
  by_cases hk:b/4503599627370496≤1011
  ·rw[show min (53-(0+((b/4503599627370496:Nat):Int)-1022)).toNat 64=64 by omega,Nat.div_eq_of_lt (by omega),Nat.div_eq_of_lt]
   ·exact⟨rfl,rfl⟩
   ·refine Nat.lt_of_lt_of_le (m:=2^64) (by omega) (Nat.pow_le_pow_right (by decide) (by omega))
  ·rw[show min (53-(0+((b/4503599627370496:Nat):Int)-1022)).toNat 64=1075-b/4503599627370496 by omega]
   exact⟨rfl,rfl⟩
theorem Zuy(b:Nat)(hb:b<18446744073709551616)(w:World):Calls Tryz.prog 120 #[.float .f64 b] w fun e w'=>e=.returned (.int .i64 (milZ b:Nat))∧w'=w:=by
 have h1:(FloatKind.f64.format.order b 0==some .gt)=gtB b:=ZAv b hb
 unfold milZ
 cases hg:gtB b
 ·rw[hg]at h1
  go_enter Tryz.func120,Tryz.ntmps120
  go_wp2
  go_ret
  exact⟨rfl,rfl⟩
 ·have h2:(FloatKind.f64.format.order b 4652007308841189376==some .gt||FloatKind.f64.format.order b 4652007308841189376==some .eq)=decide (4652007308841189376≤b):=ZBt b hg
  rw[hg]at h1
  have hp:0<b:=(of_decide_eq_true hg).1
  by_cases hk:4652007308841189376≤b
  ·rw[decide_eq_true hk]at h2
   rw[if_pos rfl,if_pos hk]
   go_enter Tryz.func120,Tryz.ntmps120
   go_wp2
   go_ret
   exact⟨rfl,rfl⟩
  ·rw[decide_eq_false hk]at h2
   rw[if_pos rfl,if_neg hk]
   go_enter Tryz.func120,Tryz.ntmps120
   go_wp2_with (first
    |(go_at_call 172;refine(Zq4 b hp (by omega) _).mono ?_;rintro e w1 ⟨rfl,rfl⟩)
    |fail)
   go_ret
   exact⟨rfl,rfl⟩
end Go.Proofs.YtlhhinlghhjghaaGreatDoor
namespace Go.Proofs.YtlhhinlghhjghaaGreatDoor
open Go.RowKit Go.Conc
set_option linter.unusedVariables false
set_option linter.unusedSimpArgs false
set_option maxRecDepth 4000
set_option maxHeartbeats 8000000
variable {M q Lv:Int}{L:List ByteArray}{g c gb gq lo:Nat}{w w':World}
structure LkAt(w:World)(g gb gq c:Nat)(M q Lv:Int)(L:List ByteArray)(lo:Nat):Prop where
 blk:BkA 190 w g [.int .i64 M,.int .i64 q,.pointer (some ⟨gb,0,none⟩),.pointer (some ⟨gq,0,none⟩)]
 bt:BtAt w gb M (1000*wiZ q 1 256) Lv
 qu:QuAt w gq c (capN q) L lo
def lkF(g gb gq c:Nat)(j:Nat):Prop:=j=g∨j=gb∨j=gq∨j=c
theorem BkA.neC{T:TypeId}{cs:List Value}{cap:Nat}{buf:Array Value}{cl:Bool}{s r:Nat}{tm:Bool}(h:BkA T w g cs)(hc:w.heap[c]? =some (.chan cap buf cl s r tm)):g≠c:=fun e=>by
 unfold BkA at h
 rw[e,hc]at h
 cases h
theorem BkA.neB{T T':TypeId}{g':Nat}{cs cs':List Value}(h:BkA T w g cs)(h':BkA T' w g' cs')(hT:T≠T'):g≠g':=by
 unfold BkA at h'
 exact h.ne h' hT
theorem LkAt.lt(h:LkAt w g gb gq c M q Lv L lo):g<w.heap.size∧gb<w.heap.size∧gq<w.heap.size∧c<w.heap.size:=
 ⟨h.blk.lt,h.bt.blk.lt,h.qu.lt.1,h.qu.lt.2⟩
theorem LkAt.ne(h:LkAt w g gb gq c M q Lv L lo):(g≠gb∧g≠gq∧g≠c)∧(gb≠gq∧gb≠c)∧gq≠c:=by
 obtain⟨s,r,hc⟩:=h.qu.chn
 exact⟨⟨h.blk.neB h.bt.blk (by decide),h.blk.neB h.qu.blk (by decide),h.blk.neC hc⟩,⟨h.bt.blk.neB h.qu.blk (by decide),h.bt.blk.neC hc⟩,h.qu.ne⟩
theorem LkAt.tu{F:Nat→Prop}(h:LkAt w g gb gq c M q Lv L lo)(ht:Tu F w w')(h1:¬F g)(h2:¬F gb)(h3:¬F gq)(h4:¬F c):LkAt w' g gb gq c M q Lv L lo:=
 ⟨h.blk.tu ht h1,h.bt.tu ht h2,h.qu.tu ht h3 h4⟩
theorem LkAt.below(h:LkAt w g gb gq c M q Lv L lo)(hb:Below w.heap.size w w'):LkAt w' g gb gq c M q Lv L lo:=
 h.tu (F:=fun _=>False) (Tu.of_below hb) id id id id
theorem LkAt.belowB{B:Nat}(h:LkAt w g gb gq c M q Lv L lo)(hb:Below B w w')(h1:g<B)(h2:gb<B)(h3:gq<B)(h4:c<B):LkAt w' g gb gq c M q Lv L lo:=
 ⟨h.blk.belowB hb h1,⟨h.bt.blk.belowB hb h2,h.bt.mil,h.bt.top,h.bt.lev⟩,h.qu.belowB hb h3 h4⟩
theorem LkAt.lev{Lv':Int}(h:LkAt w g gb gq c M q Lv L lo)(hb:BtAt w' gb M (1000*wiZ q 1 256) Lv')(ht:Tu (fun j=>j=gb) w w'):LkAt w' g gb gq c M q Lv' L lo:=
 ⟨h.blk.tu ht h.ne.1.1,hb,h.qu.tu ht (fun e=>h.ne.2.1.1 e.symm) (fun e=>h.ne.2.1.2 e.symm)⟩
theorem LkAt.que{lo':Nat}{L':List ByteArray}(h:LkAt w g gb gq c M q Lv L lo)(hq:QuAt w' gq c (capN q) L' lo')(ht:Tu (quF gq c) w w'):LkAt w' g gb gq c M q Lv L' lo':=
 ⟨h.blk.tu ht (fun e=>e.elim h.ne.1.2.1 h.ne.1.2.2),h.bt.tu ht (fun e=>e.elim h.ne.2.1.1 h.ne.2.1.2),hq⟩
theorem ZBp(ht:Tu (fun j=>j=gb) w w'):Tu (lkF g gb gq c) w w':=ht.wide fun j e=>.inr (.inl e)
theorem Zww(ht:Tu (quF gq c) w w'):Tu (lkF g gb gq c) w w':=ht.wide fun j e=>.inr (.inr e)
theorem Zji{w1 w2:World}(h:Tu (lkF g gb gq c) w w1)(k:Tu (lkF g gb gq c) w1 w2):Tu (lkF g gb gq c) w w2:=h.trans k fun _ _ e=>e
theorem Zqz(g:Nat)(M q:Int)(u v:Value)(w:World)(h:BkA 190 w g [.int .i64 M,.int .i64 q,u,v])(hM:0≤M∧M≤1000000):
  Calls Tryz.prog 122 #[.pointer (some ⟨g,0,none⟩)] w fun e w'=>e=.returned (.tuple #[])∧∃gb,w.heap.size≤gb∧BkA 190 w' g [.int .i64 M,.int .i64 q,.pointer (some ⟨gb,0,none⟩),v]∧BtAt w' gb M (1000*wiZ q 1 256) (1000*wiZ q 1 256)∧Tu (fun j=>j=g) w w':=by
 have h0:=h.at 0 rfl
 have h1:=h.at 1 rfl
 have hN:∀wx,Below w.heap.size w wx→Calls Tryz.prog 173 #[.int .i64 M,.int .i64 q] wx fun e w'=> ∃gb,e=.returned (.pointer (some ⟨gb,0,none⟩))∧Hid (w.heap.size≤gb∧BkA 190 w' g [.int .i64 M,.int .i64 q,u,v]∧BtAt w' gb M (1000*wiZ q 1 256) (1000*wiZ q 1 256)∧Below w.heap.size w w'):=by
  intro wx hx
  refine(Zxq M q wx).mono ?_
  rw[ZAt hM.1 hM.2]
  rintro e w' ⟨gb,he,h2,h3,h4⟩
  exact⟨gb,he,hide ⟨Nat.le_trans hx.size h2,h.below (below0 hx h4),h3,below0 hx h4⟩⟩
 have HN:=hide (hN _ (Below.refl w.heap.size w).drew)
 clear hN
 have H:=hide h
 clear h
 go_enter Tryz.func122,Tryz.ntmps122
 go_wp2_with fail
 go_region_law (first
  |(go_simp;go_at_call 173;refine(unhide HN).mono ?_;rintro e w1 ⟨gb,rfl,HG⟩;have k1:=(unhide HG).2.1.frz 2;have k2:=(unhide HG).2.1.at 2 rfl))
 all_goals go_wp2
 all_goals go_end0
 all_goals refine⟨rfl,gb,(unhide HG).1,(unhide HG).2.1.set 2 _,(unhide HG).2.2.1.tu (Zav _ _ _ _) (fun e=>?_),Tu.after (unhide HG).2.2.2 (Zav _ _ _ _)⟩
 all_goals exact(unhide HG).2.1.neB (unhide HG).2.2.1.blk (by decide) e.symm
theorem ZqL(b:Nat)(hb:b<18446744073709551616)(q:Int)(w:World):
  Calls Tryz.prog 61 #[.float .f64 b,.int .i64 q] w fun e w'=> ∃g gb gq c,e=.returned (.pointer (some ⟨g,0,none⟩))∧(w.heap.size≤g∧w.heap.size≤gb∧w.heap.size≤gq∧w.heap.size≤c)∧LkAt w' g gb gq c (milZ b:Nat) q (1000*wiZ q 1 256) [] 0∧Below w.heap.size w w':=by
 have hM:0≤((milZ b:Nat):Int)∧((milZ b:Nat):Int)≤1000000:=by have:=Zyv b;omega
 have HM:=hide (Zuy b hb w)
 generalize ((milZ b:Nat):Int)=M at*
 go_enter Tryz.func61,Tryz.ntmps61
 go_wp2_with (first
  |(go_at_call 120;refine(unhide HM).mono ?_;rintro e w1 ⟨rfl,hw1⟩;obtain rfl:=hw1.symm;clear hw1)
  |(go_at_call 121;refine(ZqO q _).mono ?_;rintro e w1 ⟨gq,c,rfl,hg1,hc1,hm1,hb1⟩;have HQ:=hide (And.intro hm1 (And.intro hb1 (And.intro hg1 hc1)));clear hg1 hc1 hm1 hb1)
  |(go_at_call 122;refine(Zqz _ M q (.pointer none) (.pointer (some ⟨gq,0,none⟩)) _ (Zag 190 w1 [.int .i64 M,.int .i64 q,.pointer none,.pointer (some ⟨gq,0,none⟩)]) hM).mono ?_;rintro e w3 ⟨rfl,gb,hg3,hk3,hb3,ht3⟩;have HK:=hide (And.intro hg3 (And.intro hk3 (And.intro hb3 ht3)));clear hg3 hk3 hb3 ht3)
  |fail)
 go_ret
 obtain⟨hm1,hb1,hg1,hc1⟩:=unhide HQ
 obtain⟨hg3,hk3,hb3,ht3⟩:=unhide HK
 have hz:w.heap.size≤w1.heap.size:=hb1.size
 have hal:=alloc_low w1 (.cells #[.int .i64 M,.int .i64 q,.pointer none,.pointer (some ⟨gq,0,none⟩)] 190)
 have hq1:=hm1.below hal
 refine⟨w1.heap.size,gb,gq,c,rfl,⟨hz,?_,hg1,hc1⟩,⟨hk3,hb3,hq1.tu ht3 (fun e=>?_) (fun e=>?_)⟩,Ze2 (below0 hb1 hal) ht3 hz⟩
 ·have:=hal.size;omega
 ·have:=hm1.lt.1;omega
 ·have:=hm1.lt.2;omega
end Go.Proofs.YtlhhinlghhjghaaGreatDoor
