/- Laws for the proof. -/
import Derived.Test.YtfpmnekaockodaaGreatDoorChecked
import Derived.Conc.LoneSelect
import Derived.Test.YtfpmnekaockodaaGreatDoorU12
import Derived.Conc.LoneSelectN
namespace Go.Proofs.YtfpmnekaockodaaGreatDoor
open Go.RowKit Go.Conc
set_option linter.all false
set_option maxRecDepth 4000
set_option maxHeartbeats 8000000
def If(P:Program)(c:Code)(Q:Exit->Act->World->Prop)(a:Act)(w:World):Prop:=
 ∀(b:Frame) (k:List Item) (cs:List Frame),b.kind≠ .early->∃e d w',Q e d w'/\Arrives P (lone (b.at a (.code c::k)) cs w) b k cs e d w'
section
variable {P:Program} {Q:Exit->Act->World->Prop} {a:Act} {w:World}
theorem Nc{c:Code}(h:c.wp P Q a w):If P c Q a w:=fun b k cs _=>h b k cs
theorem MP{x y:Code}(h:If P x (Exit.then (If P y Q) Q) a w):If P (.seq x y) Q a w:=by
 intro b k cs j;obtain⟨e,p,w1,l,n⟩:=h b (.code y::k) cs j;by_cases d:e=.normal
 ·subst d
  obtain⟨u,q,w2,f,i⟩:=l b k cs j;exact⟨u,q,w2,f,Arrives.of_steps (Steps.head step_seq n) i⟩
 ·have A:=Arrives.of_steps (Steps.one (step_seq (P:=P) (b:=b) (a:=a) (k:=k) (cs:=cs) (w:=w) (x:=x) (y:=y))) (Arrives.pass (x:=.code y) rfl (fun _ _=>.inl d) n)
  refine⟨e,p,w1,?_,A⟩;cases e<;>first|exact absurd rfl d|exact l
theorem Hg{x y:Code}(h:∀K:Act->World->Prop,(∀a w,If P y Q a w->K a w)->x.wp P (Exit.then K Q) a w):If P (.seq x y) Q a w:=
 MP (Nc (h _ fun _ _ h=>h))
theorem NI{f:FuncId}{b:Func}{c:Code}{args:Array Value}{R:Ending->World->Prop}
  (p:P.funcs[f]? =some b) (x:b.body=some c) (n:∀w',¬R .outgrown w')
  (h:If P c (bodyPost P b R) {tmps:=args++Array.replicate (b.ntmps-args.size) undef,defers:=[]} w):Calls P f args w R:=by
 refine calls_of_loneTo (fun cs=>?_) n;have q:Frame.enter P f args .normal=(base f).at {tmps:=args++Array.replicate (b.ntmps-args.size) undef,defers:=[]} [.code c]:=by
  simp[Frame.enter,Frame.at,p,x,base]
 rw[q];obtain⟨e,y,w',i,j⟩:=h (base f) [] cs (by simp[base])
 match e,i,j with
 | .normal,⟨l,v,u,k⟩,j=>exact⟨_,w',j.trans (.one step_end),.returned v,_,rfl,k,rfl,rfl,l,rfl,b,p,u⟩
 | .ret,⟨l,v,u,k⟩,⟨_,j⟩=>exact⟨_,w',j,.returned v,_,rfl,k,rfl,rfl,l,rfl,b,p,u⟩
 | .panic d,⟨l,k⟩,⟨_,j⟩=>exact⟨_,w',j,.panicked d,_,rfl,k,rfl,rfl,l,b,p⟩
 | .exit _,i,_=>exact i.elim
 | .goto _,i,_=>exact i.elim
 | .outgrown,i,_=>exact absurd i (n _)
def LC(P:Program)(o:Oper)(a:Act)(w:World)(v:Value)(w':World):Prop:=
 ∀(b:Frame) (ops:Array Oper) (i:Nat) (rest:List Nat) (k:List Item) (cs:List Frame),b.kind≠ .early->ops[i]? =some o->Region.wanted o (yielded ops a.tmps)=true->
  step P (lone (b.at a (.inRegion ops (i::rest)::k)) cs w)=.next (lone (b.at (a.put o.dst v) (.inRegion ops rest::k)) cs w')
theorem O2{id:Nat}{o:Oper}{l:List Oper}{v:Value}{w':World}(y:o.guard=none)(x:LC P o a w v w')
  (h:wpList P (o::l).toArray Q l (a.put o.dst v) w'):If P (.region id (o::l).toArray false) Q a w:=by
 intro b k cs u;have B:Region.wanted o (yielded (o::l).toArray a.tmps)=true:=by simp[Region.wanted,y]
 have n:=x b (o::l).toArray 0 (List.range' 1 l.length) k cs u (by simp) B;have p:=wpOps_eq_wpList (P:=P) (ops:=(o::l).toArray) (Q:=Q) l 1 (fun j=>by simp[Nat.add_comm 1 j]);rw[<-p]at h;obtain⟨e,i,C,A,d⟩:=wp_ops _ _ _ h b k cs;have f:=step_region (P:=P) (b:=b) (a:=a) (k:=k) (cs:=cs) (w:=w) (ops:=(o::l).toArray) (id:=id);have q:List.range (o::l).toArray.size=0::List.range' 1 l.length:=by
  rw[List.size_toArray,List.length_cons,List.range_eq_range',List.range'_succ]
 rw[q]at f;exact⟨e,i,C,A,.of_steps (.head f (.one n)) d⟩
section
variable {o:Oper} {c cap s r:Nat} {buf:Array Value} {z v:Value} {tm:Bool}
theorem dG(j:(execOp a.eval o).run P w=.ok (.comm #[scase c v z] false .select) w)(h:w.heap[c]? =some (.chan cap buf false s r tm))(d:buf.size<cap):
  LC P o a w (.tuple #[goInt 0,.bool false]) (w.setChan c cap (buf.push v) false (s+1) r tm):=by
 intro b ops i rest k cs f e l;rw[lone_eq_solo,step_lone_select_send_room (stepG_comm e l f j) h d,Frame.finish_at,e];rfl
theorem dF(j:(execOp a.eval o).run P w=.ok (.comm #[scase c v z] false .select) w)(h:w.heap[c]? =some (.chan cap buf false s r tm))(d:cap<=buf.size):
  LC P o a w (.tuple #[goInt (-1),.bool false]) w:=by
 intro b ops i rest k cs f e l;rw[lone_eq_solo,step_lone_select_send_full (stepG_comm e l f j) h d,Frame.finish_at,e];rfl
theorem dE(j:(execOp a.eval o).run P w=.ok (.comm #[rcase c z] false .select) w)(h:w.heap[c]? =some (.chan cap buf false s r tm))(d:0<buf.size):
  LC P o a w (.tuple #[goInt 0,.bool true,buf.getD 0 undef]) (w.setChan c cap (buf.extract 1 buf.size) false s (r+1) tm):=by
 intro b ops i rest k cs f e l;rw[lone_eq_solo,step_lone_select_recv_buf (stepG_comm e l f j) h d,Frame.finish_at,e];rfl
end
end
def capN(n:Int):Nat:=min (max n 0).toNat 256
theorem JQ(n:Int):capN n<=256:=Nat.min_le_right _ _
theorem YE(n:Int):min (max n 0) 256=(capN n:Int):=by unfold capN;omega
theorem MV(n:Int)(b:Array TypeId)(t:TypeId)(w:World):(Builtin.max_ b t #[.int .i64 n,.int .i64 0]).run Tryz.prog w=.ok (.int .i64 (max n 0)) w:=by
 rw[run_max_int2];congr 2;split<;>omega
theorem MN(n:Int)(b:Array TypeId)(t:TypeId)(w:World):(Builtin.min_ b t #[.int .i64 (max n 0),.int .i64 256]).run Tryz.prog w=.ok (.int .i64 (capN n:Int)) w:=by
 rw[run_min_int2,<-YE];congr 2;split<;>omega
variable {L:List ByteArray}{g c m lo:Nat}{w w':World}
structure AK(w:World)(g c m:Nat)(L:List ByteArray)(lo:Nat):Prop where
 blk:BkA 234 w g [.chan (some c),.int .i64 (lo:Int)]
 chn:∃s r,w.heap[c]? =some (.chan m (BM L).toArray false s r false)
 len:L.length<=m
 most:m<=256
def quF(g c:Nat)(j:Nat):Prop:=j=g\/j=c
theorem AK.lt(h:AK w g c m L lo):g<w.heap.size/\c<w.heap.size:=by
 obtain⟨s,r,b⟩:=h.chn;exact⟨h.blk.lt,(Array.getElem?_eq_some_iff.1 b).1⟩
theorem AK.tu{F:Nat->Prop}(h:AK w g c m L lo)(ht:Tu F w w')(d:¬F g)(b:¬F c):AK w' g c m L lo:=by
 obtain⟨s,r,e⟩:=h.chn;exact⟨h.blk.tu ht d,⟨s,r,(ht.block c h.lt.2 b).trans e⟩,h.len,h.most⟩
theorem AK.below(h:AK w g c m L lo)(b:Below w.heap.size w w'):AK w' g c m L lo:=
 h.tu (F:=fun _=>False) (Tu.of_below b) id id
theorem AK.belowB{B:Nat}(h:AK w g c m L lo)(b:Below B w w')(e:g<B)(d:c<B):AK w' g c m L lo:=by
 obtain⟨s,r,f⟩:=h.chn;exact⟨h.blk.belowB b e,⟨s,r,(b.block c d).trans f⟩,h.len,h.most⟩
theorem AK.ne(h:AK w g c m L lo):g≠c:=fun e=>by
 obtain⟨s,r,b⟩:=h.chn;have:=h.blk;unfold BkA at this;rw[e,b]at this;cases this
theorem AK.apart{g' d j b:Nat}{L':List ByteArray}(h:AK w g c m L lo)(f:AK w g' d j L' b):g≠d:=fun e=>by
 obtain⟨s,r,i⟩:=f.chn;have:=h.blk;unfold BkA at this;rw[e,i]at this;cases this
theorem PX(w:World)(c cap:Nat)(buf:Array Value)(b:Bool)(s r:Nat)(tm:Bool):Tu (fun j=>j=c) w (w.setChan c cap buf b s r tm):=
 ⟨rfl,rfl,rfl,by rw[size_setChan];exact Nat.le_refl _,fun k _ d=>by simp only[World.setChan];rw[Array.getElem?_setIfInBounds_ne (fun e=>d e.symm)]⟩
theorem Tu.wide{F G:Nat->Prop}(h:Tu F w w')(f:∀j,F j->G j):Tu G w w':=⟨h.os,h.tape,h.output,h.size,fun k d e=>h.block k d fun b=>e (f k b)⟩
theorem AK.chan{L':List ByteArray}(h:AK w g c m L lo)(b:L'.length<=m)(s r:Nat):AK (w.setChan c m (BM L').toArray false s r false) g c m L' lo:=
 ⟨h.blk.tu (PX _ _ _ _ _ _ _ _) h.ne,⟨s,r,heap_setChan _ _ _ _ _ _ _ _ h.lt.2⟩,b,h.most⟩
theorem AK.lost(h:AK w g c m L lo)(b:Nat):AK (w.setCell ⟨g,1,none⟩ (.int .i64 (b:Int))) g c m L b:=by
 obtain⟨s,r,d⟩:=h.chn;exact⟨h.blk.set 1 _,⟨s,r,((Be w g 1 _).block c h.lt.2 (fun e=>h.ne e.symm)).trans d⟩,h.len,h.most⟩
theorem Kj(L:List ByteArray):(BM L).toArray.size=L.length:=by rw[List.size_toArray,dU]
theorem lU(n:Int)(w:World):(Instr.makeChan 232 (.int .i64 (capN n:Int))).run Tryz.prog w=.ok (.chan (some w.heap.size)) (w.alloc (.chan (capN n) #[] false 0 0 false)):=by
 obtain⟨h,d,e,f,b⟩:=info_parts Mc;have:=JQ n;exact run_makeChan (P:=Tryz.prog) (w:=w) Tryz.underlying232 d .i64 (capN n) (by omega) (by rw[b];omega)
theorem mK(n:Int)(w:World):
  Calls Tryz.prog 101 #[.int .i64 n] w fun e w'=> ∃g c,e=.returned (.pointer (some ⟨g,0,none⟩))/\w.heap.size<=g/\w.heap.size<=c/\AK w' g c (capN n) [] 0/\Below w.heap.size w w':=by
 have f:=MV n;have h:=MN n;have i:=lU n;have d:=JQ n;generalize capN n=m at*;go_enter Tryz.func101,Tryz.ntmps101;go_wp2;go_ret
 have b:Below w.heap.size w ((w.alloc (.chan m #[] false 0 0 false)).alloc (.cells #[.chan (some w.heap.size),.int .i64 0] 234)):=
  ((Below.refl _ _).alloc (Nat.le_refl _) _).trans (((Below.refl _ _).alloc (Nat.le_refl _) _).mono (by simp))
 refine⟨_,w.heap.size,rfl,by simp,Nat.le_refl _,⟨?_,⟨0,0,?_⟩,Nat.zero_le _,d⟩,b⟩
 ·have:=AN 234 (w.alloc (.chan m #[] false 0 0 false)) [.chan (some w.heap.size),.int .i64 0]
  simpa using this
 ·rw[Below.heap_alloc _ _ _ (by simp)]
  exact heap_alloc_new w _
theorem Mk(g c m lo:Nat)(L:List ByteArray)(w:World)(h:AK w g c m L lo):Calls Tryz.prog 129 #[.pointer (some ⟨g,0,none⟩)] w fun e w'=>e=.returned (.int .i64 (L.length:Int))/\w'=w:=by
 have f:=h.blk.at 0 rfl;obtain⟨s,r,b⟩:=h.chn;have d:=run_len_chan (P:=Tryz.prog) (w:=w) 232 3 Tryz.underlying232 b;rw[Kj]at d;generalize L.length=n at*;clear b h;go_enter Tryz.func129,Tryz.ntmps129;go_wp2;go_ret;exact⟨rfl,rfl⟩
theorem eY(L:List ByteArray)(s:ByteArray):(BM L).toArray.push (.string s)=(BM (L++[s])).toArray:=by simp[BM]
theorem gf(s:ByteArray)(L:List ByteArray):(BM (s::L)).toArray.extract 1 (BM (s::L)).toArray.size=(BM L).toArray:=by
 simp[BM,List.take_of_length_le]
theorem mL (g c m lo : Nat) (L : List ByteArray) (s : ByteArray) (w : World) (h : AK w g c m L lo) (l : s.size <= 1048576) (x : L.length < m) :
    Calls Tryz.prog 112 #[.pointer (some ⟨g, 0, none⟩), .string s] w fun e w' => e = .returned (.bool true) /\ AK w' g c m (L ++ [s]) lo /\ Tu (quF g c) w w' := by
  have y := h.blk.at 0 rfl;have H := Ab h;have q := Ab l;clear h l;refine NI Tryz.func112 rfl (fun _ h => by cases h.1) ?_
  simp only [Tryz.ntmps112, List.size_toArray, List.length_cons, List.length_nil, Nat.reduceAdd, Nat.reduceSub, Array.replicate_succ,
     Array.replicate_zero, List.push_toArray, List.append_toArray, List.nil_append, List.cons_append]
  refine Hg (fun K i => ?_);go_wp2;refine Hg (fun K i => ?_);go_wp2;refine Hg (fun K i => ?_)
  go_wp2_with (first
    | (go_at_call 33; refine (GS _ _ (Aa q)).mono ?_; rintro e w1 ⟨rfl, b⟩; have f := Ab b; clear b)
    | fail)
  have d := Ab ((Aa H).below (Aa f));obtain ⟨n, r, k⟩ := (Aa d).chn;refine MP (O2 rfl (dG (z := .string ⟨#[]⟩) (v := .string s) (c := c) (by simp [go_sem, execOp, scase, Act.eval]) k (by rw [Kj]; exact x)) ?_);rw [eY];have p := Ab ((Aa d).chan (L' := L ++ [s]) (by rw [List.length_append, List.length_singleton]; omega) (n + 1) r);have u := Ab (Tu.after (Aa f) ((PX w1 c m (BM (L ++ [s])).toArray false (n + 1) r false).wide (G := quF g c) fun j e => .inr e));clear k;generalize w1.setChan c m (BM (L ++ [s])).toArray false (n + 1) r false = w2 at *;go_wp2;refine Nc ?_;go_wp2;go_ret;exact ⟨rfl, Aa p, Aa u⟩
theorem ru (g c m lo : Nat) (L : List ByteArray) (s : ByteArray) (w : World) (h : AK w g c m L lo) (p : s.size <= 1048576) (x : m <= L.length) (u : lo <= 1099511627776) :
    Calls Tryz.prog 112 #[.pointer (some ⟨g, 0, none⟩), .string s] w fun e w' => e = .returned (.bool false) /\ AK w' g c m L (lo + 1) /\ Tu (quF g c) w w' := by
  have y := h.blk.at 0 rfl;have H := Ab h;have q := Ab p;clear h p;refine NI Tryz.func112 rfl (fun _ h => by cases h.1) ?_
  simp only [Tryz.ntmps112, List.size_toArray, List.length_cons, List.length_nil, Nat.reduceAdd, Nat.reduceSub, Array.replicate_succ,
     Array.replicate_zero, List.push_toArray, List.append_toArray, List.nil_append, List.cons_append]
  refine Hg (fun K k => ?_);go_wp2;refine Hg (fun K k => ?_);go_wp2;refine Hg (fun K k => ?_)
  go_wp2_with (first
    | (go_at_call 33; refine (GS _ _ (Aa q)).mono ?_; rintro e w1 ⟨rfl, b⟩; have f := Ab b; clear b)
    | fail)
  have d := Ab ((Aa H).below (Aa f));obtain ⟨n, r, l⟩ := (Aa d).chn;refine MP (O2 rfl (dF (z := .string ⟨#[]⟩) (v := .string s) (c := c) (by simp [go_sem, execOp, scase, Act.eval]) l (by rw [Kj]; exact x)) ?_);clear l;go_wp2;refine Nc ?_;have A := (Aa d).blk.at 1 rfl;have B := (Aa d).blk.frz 1;have C : IntKind.i64.wrap ((lo : Int) + 1) = (lo : Int) + 1 := by rw [IntKind.wrap_i64]; omega
  go_wp2;go_ret;have i := (Aa d).lost (lo + 1);rw [Int.natCast_add] at i;exact ⟨rfl, i, Tu.after (Aa f) ((Be w1 g 1 _).wide (G := quF g c) fun j e => .inl e)⟩
theorem ie (g c m lo : Nat) (s : ByteArray) (L : List ByteArray) (w : World) (h : AK w g c m (s :: L) lo) :
    Calls Tryz.prog 108 #[.pointer (some ⟨g, 0, none⟩)] w fun e w' => e = .returned (.tuple #[.string s, .bool true]) /\ AK w' g c m L lo /\ Tu (quF g c) w w' := by
  have l := h.blk.at 0 rfl;have H := Ab h;clear h;refine NI Tryz.func108 rfl (fun _ h => by cases h.1) ?_
  simp only [Tryz.ntmps108, List.size_toArray, List.length_cons, List.length_nil, Nat.reduceAdd, Nat.reduceSub, Array.replicate_succ,
     Array.replicate_zero, List.push_toArray, List.append_toArray, List.nil_append, List.cons_append]
  refine Hg (fun K b => ?_);go_wp2;refine Hg (fun K b => ?_);go_wp2;refine Hg (fun K b => ?_);go_wp2;obtain ⟨n, r, d⟩ := (Aa H).chn;refine MP (O2 rfl (dE (z := .string ⟨#[]⟩) (c := c) (by simp [go_sem, execOp, rcase, Act.eval]) d (by rw [Kj]; exact Nat.succ_pos _)) ?_);rw [gf];have f : (BM (s :: L)).toArray.getD 0 undef = .string s := by simp [BM]
  rw [f];have i := Ab ((Aa H).chan (L' := L) (by have := (Aa H).len; rw [List.length_cons] at this; omega) n (r + 1));have k := Ab ((PX w c m (BM L).toArray false n (r + 1) false).wide (G := quF g c) fun j e => .inr e);clear d f;generalize w.setChan c m (BM L).toArray false n (r + 1) false = w2 at *;go_wp2;refine Nc ?_;go_wp2;go_ret2;exact ⟨rfl, Aa i, Aa k⟩
def QG(w:World)(c:Nat):Nat:=match w.heap[c]? with
 |some (.chan _ b _ _ _ _)=>b.size
 |_=>0
theorem AK.lenOf(h:AK w g c m L lo):QG w c=L.length:=by
 obtain⟨s,r,b⟩:=h.chn;unfold QG;rw[b];exact Kj L
variable {M T L:Int}
def By(x a b:Int):Int:=min (max x a) b
theorem Nb(x:Int){a b:Int}(h:a<=b):a<=By x a b/\By x a b<=b:=by unfold By;omega
theorem cI{x a b:Int}(d:a<=x)(e:x<=b):By x a b=x:=by unfold By;omega
structure BK(w:World)(g:Nat)(M T L:Int):Prop where
 blk:BkA 239 w g [.int .i64 M,.int .i64 T,.int .i64 L]
 mil:0<=M/\M<=1000000
 top:1000<=T/\T<=256000
 lev:0<=L/\L<=T
theorem BK.below{w w':World}{g:Nat}(h:BK w g M T L)(b:Below w.heap.size w w'):BK w' g M T L:=⟨h.blk.below b,h.mil,h.top,h.lev⟩
theorem BK.tu{F:Nat->Prop}{w w':World}{g:Nat}(h:BK w g M T L)(ht:Tu F w w')(b:¬F g):BK w' g M T L:=⟨h.blk.tu ht b,h.mil,h.top,h.lev⟩
def Gx(M T L n:Int):Int:=min (L+By n 0 1048576*M) T
theorem ql(n:Int)(b:0<=M)(e:0<=T)(d:0<=L):0<=Gx M T L n/\Gx M T L n<=T:=by
 have:=Nb n (show(0:Int)<=1048576 by decide);have:=Int.mul_nonneg this.1 b;unfold Gx;omega
theorem NV(x a b:Int)(w:World):Calls Tryz.prog 141 #[.int .i64 x,.int .i64 a,.int .i64 b] w fun e w'=>e=.returned (.int .i64 (By x a b))/\w'=w:=by
 have f:=JM x a;have d:=Iy (max x a) b;unfold By;generalize max x a=m at*;generalize min m b=n at*;go_enter Tryz.func141,Tryz.ntmps141;go_wp2;go_ret;exact⟨rfl,rfl⟩
theorem mr(m k:Int)(w:World):
  Calls Tryz.prog 140 #[.int .i64 m,.int .i64 k] w fun e w'=>e=.returned (.pointer (some ⟨w.heap.size,0,none⟩))/\BK w' w.heap.size (By m 0 1000000) (1000*By k 1 256) (1000*By k 1 256)/\Below w.heap.size w w':=by
 have j:=Nb k (show(1:Int)<=256 by decide);have i:=Nb m (show(0:Int)<=1000000 by decide);have d:Hid True:=Ab trivial;have f:=NV k 1 256;have h:=NV m 0 1000000;generalize By k 1 256=x at*;generalize By m 0 1000000=y at*;go_enter Tryz.func140,Tryz.ntmps140
 go_wp2_with (first
  |(clear d;go_at_call 141;refine(f _).mono ?_;rintro e w1 ⟨rfl,b⟩;obtain rfl:=b.symm;clear b)
  |(go_at_call 141;refine(h _).mono ?_;rintro e w1 ⟨rfl,b⟩;obtain rfl:=b.symm;clear b)
  |fail)
 go_ret;exact⟨rfl,⟨AN 239 _ [.int .i64 y,.int .i64 (1000*x),.int .i64 (1000*x)],i,by omega,by omega⟩,Ax _ _⟩
theorem ms(g:Nat)(M T L:Int)(w:World)(h:BK w g M T L)(d:L<1000):Calls Tryz.prog 142 #[.pointer (some ⟨g,0,none⟩)] w fun e w'=>e=.returned (.bool false)/\w'=w:=by
 have b:=h.blk.at 2 rfl;go_enter Tryz.func142,Tryz.ntmps142;go_wp2;go_ret;exact⟨rfl,rfl⟩
theorem iR(g:Nat)(M T L:Int)(w:World)(h:BK w g M T L)(i:1000<=L):Calls Tryz.prog 142 #[.pointer (some ⟨g,0,none⟩)] w fun e w'=>e=.returned (.bool true)/\BK w' g M T (L-1000)/\Tu (fun j=>j=g) w w':=by
 have b:=h.blk.at 2 rfl;have f:=h.blk.frz 2;have d:=h.lev;have ht:=h.top;have H:=Ab h;clear h;go_enter Tryz.func142,Tryz.ntmps142;go_wp2;go_ret;exact⟨rfl,⟨(Aa H).blk.set 2 _,(Aa H).mil,ht,by omega⟩,Be _ _ _ _⟩
theorem rc(m k:Int)(w:World):
  Calls Tryz.prog 140 #[.int .i64 m,.int .i64 k] w fun e w'=> ∃g,e=.returned (.pointer (some ⟨g,0,none⟩))/\w.heap.size<=g/\BK w' g (By m 0 1000000) (1000*By k 1 256) (1000*By k 1 256)/\Below w.heap.size w w':=
 (mr m k w).mono fun e w' ⟨b,d,f⟩=>⟨_,b,Nat.le_refl _,d,f⟩
theorem Zf(w:World)(g i:Nat)(u:Value):Tu (fun j=>j=g) w (w.setCell ⟨g,i,none⟩ u).drew:=Tu.of_gb (JS (BF _ _ _ _)) fun j _ e=>(Option.some.inj e).symm
theorem iS(g:Nat)(M T L n:Int)(w:World)(h:BK w g M T L):
  Calls Tryz.prog 105 #[.pointer (some ⟨g,0,none⟩),.int .i64 n] w fun e w'=>e=.returned (.tuple #[])/\BK w' g M T (Gx M T L n)/\Tu (fun j=>j=g) w w':=by
 have y:=h.blk.at 0 rfl;have A:=h.blk.at 1 rfl;have B:=h.blk.at 2 rfl;have C:=h.blk.frz 2;have l:=h.lev;have ht:=h.top;have d:=h.mil;have k:=NV n 0 1048576;have i:=Nb n (show(0:Int)<=1048576 by decide);have p:=ql n d.1 (by omega:0<=T) l.1;have f:=Iy (L+By n 0 1048576*M) T;rw[show min (L+By n 0 1048576*M) T=Gx M T L n from rfl]at f;generalize Gx M T L n=Z at*;generalize By n 0 1048576=N at*;have q:0<=N*M:=Int.mul_nonneg i.1 d.1;have u:N*M<=1048576*1000000:=Int.mul_le_mul i.2 d.2 d.1 (by decide);have b:IntKind.i64.wrap (N*M)=N*M:=by rw[IntKind.wrap_i64];omega
 have x:IntKind.i64.wrap (L+N*M)=L+N*M:=by rw[IntKind.wrap_i64];omega
 have H:=Ab h;clear h;go_enter Tryz.func105,Tryz.ntmps105;go_wp2_with fail
 go_region_law (first
  |(go_simp;go_at_call 141;refine(k _).mono ?_;rintro e w1 ⟨rfl,b⟩;obtain rfl:=b.symm;clear b))
 all_goals go_wp2
 all_goals go_end0
 all_goals exact⟨rfl,⟨(Aa H).blk.set 2 _,d,ht,p⟩,Zf _ _ _ _⟩
def DX(x:Nat):Nat:=if x<4503599627370496 then x else 4503599627370496+x%4503599627370496
def exF(x:Nat):Nat:=if x<4503599627370496 then 0 else x/4503599627370496-1
theorem Qk:Ieee.double.signWeight=9223372036854775808:=rfl
theorem Lo:Ieee.double.binade=4503599627370496:=rfl
theorem Lp:Ieee.double.infRung=9218868437227405312:=rfl
theorem K6:Ieee.double.leastPlace= -1074:=rfl
theorem IB(x:Nat)(h:x<9218868437227405312):Ieee.double.read x=.number false (DX x) (-1074+(exF x:Int)):=by
 have d:x/9223372036854775808%2=0:=by omega
 have e:x%9223372036854775808=x:=by omega
 simp only[Ieee.Format.read,Qk,Lo,Lp,K6,d,e,DX,exF];by_cases b:x<4503599627370496
 ·simp[b]
 ·simp[b,h]
theorem sB(x:Nat)(h:9223372036854775808<=x)(d:x<18446744073709551616):
  (∃m i,Ieee.double.read x=.number true m i)\/Ieee.double.read x=.infinity true\/∃t,Ieee.double.read x=.nan true t:=by
 have b:x/9223372036854775808%2=1:=by omega
 simp only[Ieee.Format.read,Qk,Lo,Lp,K6,b];split
 ·exact .inl ⟨_,_,rfl⟩
 ·split
  ·exact .inl ⟨_,_,rfl⟩
  ·split
   ·exact .inr (.inl rfl)
   ·exact .inr (.inr ⟨_,rfl⟩)
theorem sA(x:Nat)(h:9218868437227405312<x)(e:x<9223372036854775808):∃t,Ieee.double.read x=.nan false t:=by
 have b:x/9223372036854775808%2=0:=by omega
 have d:x%9223372036854775808=x:=by omega
 simp only[Ieee.Format.read,Qk,Lo,Lp,K6,b,d];rw[if_neg (by omega),if_neg (by omega),if_neg (by omega)];exact⟨_,rfl⟩
theorem Rc(x:Nat):x=exF x*4503599627370496+DX x/\DX x<9007199254740992/\(0<exF x->4503599627370496<=DX x):=by
 unfold DX exF;by_cases h:x<4503599627370496
 ·rw[if_pos h,if_pos h];omega
 ·rw[if_neg h,if_neg h];omega
theorem PO(n:Nat)(h:0<n):2<=2^n:=by
 obtain⟨m,rfl⟩:∃m,n=m+1:=⟨n-1,by omega⟩;have:=Nat.two_pow_pos m;rw[Nat.pow_succ];omega
theorem dC(a b:Nat):compare (a:Int) (b:Int)=compare a b:=by
 rcases Nat.lt_trichotomy a b with h|h|h
 ·rw[Nat.compare_eq_lt.2 h,Int.compare_eq_lt.2 (by omega)]
 ·subst h;simp
 ·rw[Nat.compare_eq_gt.2 h,Int.compare_eq_gt.2 (by omega)]
theorem I9(x y:Nat)(p:x<9218868437227405312)(q:y<9218868437227405312):Ieee.double.order x y=some (compare x y):=by
 obtain⟨u,B,j⟩:=Rc x;obtain⟨A,C,k⟩:=Rc y;rw[Ieee.Format.order,IB x p,IB y q];simp only[Ieee.Datum.order,Ieee.signed,Bool.false_eq_true,if_false,Nat.shiftLeft_eq,dC];congr 1;generalize exF x=a at*;generalize exF y=c at*;generalize DX x=m at*;generalize DX y=n at*;rcases Nat.lt_trichotomy a c with h|h|h
 ·have b:(-1074+(a:Int)-min (-1074+(a:Int)) (-1074+(c:Int))).toNat=0:=by omega
  have d:(-1074+(c:Int)-min (-1074+(a:Int)) (-1074+(c:Int))).toNat=c-a:=by omega
  rw[b,d];have:=k (by omega);have i:=PO (c-a) (by omega);have:4503599627370496*2<=n*2^(c-a):=Nat.mul_le_mul this i;have e:m*2^0<n*2^(c-a):=by omega
  have f:x<y:=by omega
  rw[Nat.compare_eq_lt.2 e,Nat.compare_eq_lt.2 f]
 ·subst h
  have b:(-1074+(a:Int)-min (-1074+(a:Int)) (-1074+(a:Int))).toNat=0:=by omega
  rw[b];rcases Nat.lt_trichotomy m n with l|l|l
  ·rw[Nat.compare_eq_lt.2 (by omega),Nat.compare_eq_lt.2 (by omega)]
  ·rw[Nat.compare_eq_eq.2 (by omega),Nat.compare_eq_eq.2 (by omega)]
  ·rw[Nat.compare_eq_gt.2 (by omega),Nat.compare_eq_gt.2 (by omega)]
 ·have b:(-1074+(a:Int)-min (-1074+(a:Int)) (-1074+(c:Int))).toNat=a-c:=by omega
  have d:(-1074+(c:Int)-min (-1074+(a:Int)) (-1074+(c:Int))).toNat=0:=by omega
  rw[b,d];have:=j (by omega);have i:=PO (a-c) (by omega);have:4503599627370496*2<=m*2^(a-c):=Nat.mul_le_mul this i;have e:n*2^0<m*2^(a-c):=by omega
  have f:y<x:=by omega
  rw[Nat.compare_eq_gt.2 e,Nat.compare_eq_gt.2 f]
def Ka(b:Nat):Bool:=decide (0<b/\b<=9218868437227405312)
theorem ZS(b:Nat)(j:b<18446744073709551616):(Ieee.double.order b 0==some .gt)=Ka b:=by
 rcases Nat.lt_or_ge b 9218868437227405312 with h|h
 ·rw[I9 b 0 h (by decide)]
  by_cases e:b=0
  ·subst e;rfl
  ·rw[Nat.compare_eq_gt.2 (by omega)]
   exact(decide_eq_true (by omega:0<b/\b<=9218868437227405312)).symm
 ·rcases Nat.lt_or_ge b 9223372036854775808 with f|f
  ·by_cases l:b=9218868437227405312
   ·subst l;rfl
   ·obtain⟨t,ht⟩:=sA b (by omega) f
    rw[Ieee.Format.order,ht];exact(decide_eq_false (by omega:¬(0<b/\b<=9218868437227405312))).symm
  ·rw[Ieee.Format.order,IB 0 (by decide)]
   have n:Ka b=false:=decide_eq_false (by omega);rw[n];rcases sB b f j with⟨m,i,d⟩|d|⟨t,d⟩
   ·rw[d]
    simp only[Ieee.Datum.order,Ieee.signed,if_true,Bool.false_eq_true,if_false,Nat.shiftLeft_eq,show DX 0=0 from rfl,Nat.zero_mul];generalize m*2^_=k;rcases Nat.eq_zero_or_pos k with e|e
    ·subst e;rfl
    ·rw[Int.compare_eq_lt.2 (by simp;omega)];rfl
   ·rw[d];rfl
   ·rw[d];rfl
theorem bH(b:Nat)(h:Ka b=true):(Ieee.double.order b 4652007308841189376==some .gt||Ieee.double.order b 4652007308841189376==some .eq)=decide (4652007308841189376<=b):=by
 have e:0<b/\b<=9218868437227405312:=of_decide_eq_true h;by_cases d:b=9218868437227405312
 ·subst d;rfl
 ·rw[I9 b _ (by omega) (by decide)]
  rcases Nat.lt_trichotomy b 4652007308841189376 with l|l|l
  ·rw[Nat.compare_eq_lt.2 l,decide_eq_false (by omega)];rfl
  ·rw[Nat.compare_eq_eq.2 l,decide_eq_true (by omega)];rfl
  ·rw[Nat.compare_eq_gt.2 l,decide_eq_true (by omega)];rfl
def milN(b:Nat):Nat:=if b<4503599627370496 then 0 else(4503599627370496+b%4503599627370496)*1000/2^(1075-b/4503599627370496)
theorem lb(a b:Nat)(h:a<=b)(j:b<4652007308841189376):milN a<=milN b:=by
 unfold milN;by_cases d:a<4503599627370496
 ·rw[if_pos d];exact Nat.zero_le _
 ·rw[if_neg d,if_neg (by omega)]
  rcases Nat.lt_or_ge (a/4503599627370496) (b/4503599627370496)with l|l
  ·have i:b/4503599627370496<=1032:=by omega
   have e:1075-a/4503599627370496=(1075-b/4503599627370496)+(b/4503599627370496-a/4503599627370496):=by omega
   have f:=PO (b/4503599627370496-a/4503599627370496) (by omega);rw[e,Nat.pow_add,Nat.mul_comm (2^(1075-b/4503599627370496)),<-Nat.div_div_eq_div_mul];refine Nat.div_le_div_right ?_;refine Nat.le_trans (Nat.div_le_div_left f (by decide)) ?_;omega
  ·have e:a/4503599627370496=b/4503599627370496:=by have:=Nat.div_le_div_right (c:=4503599627370496) h;omega
   rw[e];refine Nat.div_le_div_right ?_;have:=Nat.div_add_mod a 4503599627370496;have:=Nat.div_add_mod b 4503599627370496;omega
theorem X7(b:Nat)(d:b<4652007308841189376):milN b<=999999:=by
 refine Nat.le_trans (lb b 4652007308841189375 (by omega) (by decide)) ?_;exact Nat.le_of_eq (by decide)
def milZ(b:Nat):Nat:=if Ka b then(if 4652007308841189376<=b then 1000000 else milN b)else 0
theorem Zl(b:Nat):milZ b<=1000000:=by
 unfold milZ;split
 ·split
  ·exact Nat.le_refl _
  ·exact Nat.le_trans (X7 b (by omega)) (by decide)
 ·decide
theorem XY(n k:Nat)(e:2^k<=n)(f:n<2^(k+1)):n.log2=k:=by
 have d:n≠0:=by have:=Nat.two_pow_pos k;omega
 have a:=(Nat.le_log2 d).2 e;have b:=(Nat.log2_lt d).2 f;omega
theorem oQ(n:Nat):Ieee.Toward.cut .zero false n 0=n:=by
 simp[Ieee.Toward.cut]
theorem Za(b:Nat)(p:0<b)(h:b<4503599627370496):∃y,floatBits .mul .f64 b 4841369599423283200=some y/\y<=238690780250636288:=by
 refine⟨Ieee.double.nearest false (b*4503599627370496) (-1074),?_,?_⟩
 ·show Ieee.double.mul b 4841369599423283200=_
  rw[Ieee.Format.mul,IB b (by omega),IB 4841369599423283200 (by decide)];have d:DX b=b:=by rw[DX,if_pos h]
  have e:exF b=0:=by rw[exF,if_pos h]
  rw[d,e,show DX 4841369599423283200=4503599627370496 from rfl,show exF 4841369599423283200=1074 from rfl];rfl
 ·have f:b*4503599627370496≠0:=by omega
  have u:52<=(b*4503599627370496).log2:=(Nat.le_log2 f).2 (by show 2^52<=_;omega);have x:(b*4503599627370496).log2<104:=(Nat.log2_lt f).2 (by show _<2^104;omega);have l:b*4503599627370496<2^((b*4503599627370496).log2+1):=Nat.lt_log2_self;generalize b*4503599627370496=n at*;unfold Ieee.Format.nearest;rw[if_neg f];simp only[K6,Lo,Lp,show Ieee.double.fractionBits=52 from rfl];have k:1<<<min (n.log2-52) (n.log2+2)=2^(n.log2-52):=by rw[Nat.min_eq_left (by omega),Nat.shiftLeft_eq,Nat.one_mul]
  have i:n/2^(n.log2-52)<9007199254740992:=by
   refine Nat.div_lt_of_lt_mul (Nat.lt_of_lt_of_eq l ?_);rw[show(9007199254740992:Nat)=2^53 from rfl,<-Nat.pow_add];exact congrArg _ (by omega)
  have d:max (-1074+(n.log2:Int)-((52:Nat):Int)) (-1074)= -1074+(n.log2:Int)-52:=by omega
  rw[d];have e:(-1074-(-1074+(n.log2:Int)-52)).toNat=0:=by omega
  have j:(-1074+(n.log2:Int)-52 - -1074).toNat=n.log2-52:=by omega
  rw[e,j,Nat.shiftLeft_zero];have q:Ieee.Toward.cut .even false n (n.log2-52)<=9007199254740992:=by
   simp only[Ieee.Toward.cut,k];refine Nat.le_trans (Nat.add_le_add_left (Bool.toNat_le _) _) ?_;omega
  rw[Ieee.Format.word];simp only[Bool.false_eq_true,if_false];refine Nat.le_trans (Nat.min_le_left _ _) ?_;omega
theorem qN(m:Nat)(h:m<4503599627370496):floatBits .mul .f64 (4602678819172646912+m) 4845873199050653696=some (4841369599423283200+m):=by
 show Ieee.double.mul _ 4845873199050653696=_;rw[Ieee.Format.mul,IB (4602678819172646912+m) (by omega),IB 4845873199050653696 (by decide)];have d:DX (4602678819172646912+m)=4503599627370496+m:=by rw[DX,if_neg (by omega)];omega
 have e:exF (4602678819172646912+m)=1021:=by rw[exF,if_neg (by omega)];omega
 rw[d,e,show DX 4845873199050653696=4503599627370496 from rfl,show exF 4845873199050653696=1075 from rfl];show some (Ieee.double.nearest false ((4503599627370496+m)*4503599627370496) (-52))=_;have b:((4503599627370496+m)*4503599627370496).log2=104:=XY _ _ (by show 2^104<=_;omega) (by show _<2^105;omega);unfold Ieee.Format.nearest;rw[if_neg (by omega),b];have f:Ieee.Toward.cut .even false ((4503599627370496+m)*4503599627370496) 52=4503599627370496+m:=by
  have i:1<<<min 52 (104+2)=4503599627370496:=rfl;simp only[Ieee.Toward.cut,b,i];rw[Nat.mul_div_cancel _ (by decide),Nat.mul_mod_left];rfl
 simp only[K6,Lo,Lp,show Ieee.double.fractionBits=52 from rfl];rw[show max (-52+((104:Nat):Int)-((52:Nat):Int)) (-1074)=0 from rfl,show(-52-(0:Int)).toNat=0 from rfl,show((0:Int) - -52).toNat=52 from rfl,show((0:Int) - -1074).toNat=1074 from rfl,Nat.shiftLeft_zero,f,Ieee.Format.word];simp only[Bool.false_eq_true,if_false];congr 1;omega
theorem qM(m:Nat)(h:m<4503599627370496):floatToIntVal .f64 (4841369599423283200+m) .u64=some ((4503599627370496+m:Nat):Int):=by
 have d:DX (4841369599423283200+m)=4503599627370496+m:=by rw[DX,if_neg (by omega)];omega
 have e:exF (4841369599423283200+m)=1074:=by rw[exF,if_neg (by omega)];omega
 have f:FloatKind.f64.decode (4841369599423283200+m)=.number false (4503599627370496+m) 0:=by
  show Ieee.double.read _=_;rw[IB _ (by omega),d,e];rfl
 have ht:(Ieee.Datum.number false (4503599627370496+m) 0).toInt .zero=some ((4503599627370496+m:Nat):Int):=by
  show some (Ieee.signed false (Ieee.Toward.cut .zero false ((4503599627370496+m)<<<(0:Int).toNat) (-(0:Int)).toNat) 0)=_;rw[show(0:Int).toNat=0 from rfl,show(-(0:Int)).toNat=0 from rfl,Nat.shiftLeft_zero,oQ,Ieee.signed];simp only[Bool.false_eq_true,if_false,Nat.shiftLeft_zero]
 rw[floatToIntVal,f,ht];simp only;rw[if_pos];have a:IntKind.u64.min=0:=rfl;have b:IntKind.u64.max=18446744073709551615:=rfl;omega
theorem PH(k x:Nat):x&&&(2^k-1)=x%2^k:=Nat.and_two_pow_sub_one_eq_mod x k
theorem jT(b:Nat)(h:b<9223372036854775808):bits .andNot .u64 (b:Int) 9223372036854775808=(b:Int):=by
 have:=u64_andNot_nat b 9223372036854775808 (by omega) (by decide);rw[show((9223372036854775808:Nat):Int)=9223372036854775808 from rfl]at this;rw[this,show 18446744073709551615-9223372036854775808=2^63-1 from rfl,PH,Nat.mod_eq_of_lt (by omega)]
theorem pD(y:Nat)(h:y<9223372036854775808):bits .andNot .u64 (y:Int) 9218868437227405312=((y%4503599627370496:Nat):Int):=by
 have:=u64_andNot_nat y 9218868437227405312 (by omega) (by decide);rw[show((9218868437227405312:Nat):Int)=9218868437227405312 from rfl]at this;rw[this,show 18446744073709551615-9218868437227405312=2^63*1+(2^52-1) from rfl,Nat.two_pow_add_eq_or_of_lt (by decide),Nat.and_or_distrib_left,PH];have:y&&&2^63*1=0:=by
  rw[Nat.mul_one];apply Nat.eq_of_testBit_eq;intro i;rw[Nat.testBit_and,Nat.zero_testBit,Nat.testBit_two_pow];by_cases b:63=i
  ·subst b
   rw[Nat.testBit_lt_two_pow (by omega:y<2^63)];rfl
  ·rw[decide_eq_false b,Bool.and_false]
 rw[this,Nat.zero_or]
theorem jR(m:Nat)(h:m<4503599627370496):bits .or .u64 (m:Int) 4602678819172646912=((4602678819172646912+m:Nat):Int):=by
 have:=u64_or_nat m 4602678819172646912 (by omega) (by decide);rw[show((4602678819172646912:Nat):Int)=4602678819172646912 from rfl]at this;rw[this,show(4602678819172646912:Nat)=2^52*1022 from rfl,Nat.two_pow_add_eq_or_of_lt h,Nat.or_comm]
theorem jS(n:Nat)(h:n<2048):bits .and .u64 (n:Int) 2047=(n:Int):=by
 have:=u64_and_nat n 2047 (by omega) (by decide);rw[show((2047:Nat):Int)=2047 from rfl]at this;rw[this,show(2047:Nat)=2^11-1 from rfl,PH,Nat.mod_eq_of_lt (by omega)]
theorem Uo(b:Nat)(w:World):(callFunc 228 #[.float .f64 b]).run Tryz.prog w=.ok (.value (.int .u64 b)) w:=by
 rw[run_callFunc_extern Tryz.func228 (by kernel_rfl) (by kernel_rfl) (by kernel_rfl) (e:=Extern.MathFloatBits.float64bits) (by kernel_rfl)];rfl
theorem Ur(n:Nat)(w:World):(callFunc 229 #[.int .u64 n]).run Tryz.prog w=.ok (.value (.float .f64 n)) w:=by
 rw[run_callFunc_extern Tryz.func229 (by kernel_rfl) (by kernel_rfl) (by kernel_rfl) (e:=Extern.MathFloatBits.float64frombits) (by kernel_rfl)];rfl
theorem PF(b:Nat)(d:b<9223372036854775808)(w:World):Calls Tryz.prog 266 #[.float .f64 b] w fun e w'=>e=.returned (.float .f64 b)/\w'=w:=by
 have f:=Uo b w;have h:=Ur b w;have i:=jT b d;go_enter Tryz.func266,Tryz.ntmps266;go_wp2;go_ret;exact⟨rfl,rfl⟩
theorem mA(b:Nat)(d:b<9218868437227405312)(w:World):Calls Tryz.prog 225 #[.float .f64 b,.int .i64 0] w fun e w'=>e=.returned (.bool false)/\w'=w:=by
 have f:(FloatKind.f64.format.order b 9218868437227405311==some .gt)=false:=by
  show(Ieee.double.order b 9218868437227405311==some .gt)=false;rw[I9 b _ d (by decide)];rcases Nat.lt_or_ge b 9218868437227405311 with l|l
  ·rw[Nat.compare_eq_lt.2 l];rfl
  ·rw[Nat.compare_eq_eq.2 (by omega)];rfl
 go_enter Tryz.func225,Tryz.ntmps225
 go_wp2_with (first
  |(go_at_call 266;refine(PF b (by omega) _).mono ?_;rintro e w1 ⟨rfl,rfl⟩)
  |fail)
 go_ret;exact⟨rfl,rfl⟩
theorem mC(b:Nat)(d:b<9218868437227405312)(w:World):Calls Tryz.prog 226 #[.float .f64 b] w fun e w'=>e=.returned (.bool false)/\w'=w:=by
 have f:(FloatKind.f64.format.order b b !=some .eq)=false:=by
  show(Ieee.double.order b b !=some .eq)=false;rw[I9 b _ d d,Nat.compare_eq_eq.2 rfl];rfl
 go_enter Tryz.func226,Tryz.ntmps226;go_wp2;go_ret;exact⟨rfl,rfl⟩
theorem qH(b:Nat)(d:b<9218868437227405312)(h:4503599627370496<=b)(w:World):Calls Tryz.prog 227 #[.float .f64 b] w fun e w'=>e=.returned (.tuple #[.float .f64 b,.int .i64 0])/\w'=w:=by
 have f:(FloatKind.f64.format.order b 4503599627370496==some .lt)=false:=by
  show(Ieee.double.order b 4503599627370496==some .lt)=false;rw[I9 b _ d (by decide)];rcases Nat.lt_or_ge 4503599627370496 b with l|l
  ·rw[Nat.compare_eq_gt.2 l];rfl
  ·rw[Nat.compare_eq_eq.2 (by omega)];rfl
 go_enter Tryz.func227,Tryz.ntmps227
 go_wp2_with (first
  |(go_at_call 266;refine(PF b (by omega) _).mono ?_;rintro e w1 ⟨rfl,rfl⟩)
  |fail)
 go_ret2;exact⟨rfl,rfl⟩
theorem qI(b y:Nat)(h:b<4503599627370496)(d:floatBits .mul .f64 b 4841369599423283200=some y)(w:World):Calls Tryz.prog 227 #[.float .f64 b] w fun e w'=>e=.returned (.tuple #[.float .f64 y,.int .i64 (-52)])/\w'=w:=by
 have f:(FloatKind.f64.format.order b 4503599627370496==some .lt)=true:=by
  show(Ieee.double.order b 4503599627370496==some .lt)=true;rw[I9 b _ (by omega) (by decide),Nat.compare_eq_lt.2 h];rfl
 have i:=run_float_arith (P:=Tryz.prog) w .mul 23 .f64 b 4841369599423283200 y d;go_enter Tryz.func227,Tryz.ntmps227
 go_wp2_with (first
  |(go_at_call 266;refine(PF b (by omega) _).mono ?_;rintro e w1 ⟨rfl,rfl⟩)
  |fail)
 go_ret2;exact⟨rfl,rfl⟩
theorem Va(b y:Nat)(d:Int)(i:0<b)(f:b<9218868437227405312)(B:y<9218868437227405312)(A: -52<=d/\d<=0)
  (n:∀w,Calls Tryz.prog 227 #[.float .f64 b] w fun e w'=>e=.returned (.tuple #[.float .f64 y,.int .i64 d])/\w'=w) (w:World):
  Calls Tryz.prog 191 #[.float .f64 b] w fun e w'=>e=.returned (.tuple #[.float .f64 (4602678819172646912+y%4503599627370496),.int .i64 (d+((y/4503599627370496:Nat):Int)-1022)])/\w'=w:=by
 have p:(FloatKind.f64.format.order b 0==some .eq)=false:=by
  show(Ieee.double.order b 0==some .eq)=false;rw[I9 b _ f (by decide),Nat.compare_eq_gt.2 i];rfl
 have q:=Uo y w;have j:=Ur (4602678819172646912+y%4503599627370496) w;have k:=pD y (by omega);have h:=jR (y%4503599627370496) (by omega);have l:=jS (y/4503599627370496) (by omega);rw[show((4602678819172646912+y%4503599627370496:Nat):Int)=4602678819172646912+(y:Int)%4503599627370496 by omega]at j h;rw[show((y%4503599627370496:Nat):Int)=(y:Int)%4503599627370496 by omega]at k h;rw[show((y/4503599627370496:Nat):Int)=(y:Int)/4503599627370496 by omega]at l;have u:0<=(y:Int)/4503599627370496:=by omega
 have x:(y:Int)/4503599627370496<=2047:=by omega
 go_enter Tryz.func191,Tryz.ntmps191
 go_wp2_with (first
  |(go_at_call 225;refine(mA b f _).mono ?_;rintro e w1 ⟨rfl,rfl⟩)
  |(go_at_call 226;refine(mC b f _).mono ?_;rintro e w1 ⟨rfl,rfl⟩)
  |(go_at_call 227;refine(n _).mono ?_;rintro e w1 ⟨rfl,rfl⟩)
  |fail)
 go_ret2;rw[show d+((y:Int)/4503599627370496-1023+1)=d+((y/4503599627370496:Nat):Int)-1022 by omega];exact⟨rfl,rfl⟩
theorem US(b f:Nat)(E:Int)(d:∀w,Calls Tryz.prog 191 #[.float .f64 b] w fun e w'=>e=.returned (.tuple #[.float .f64 f,.int .i64 E])/\w'=w)(w:World):
  Calls Tryz.prog 166 #[.float .f64 b] w fun e w'=>e=.returned (.tuple #[.float .f64 f,.int .i64 E])/\w'=w:=by
 go_enter Tryz.func166,Tryz.ntmps166
 go_wp2_with (first
  |(go_at_call 191;refine(d _).mono ?_;rintro e w1 ⟨rfl,rfl⟩)
  |fail)
 go_ret2;exact⟨rfl,rfl⟩
theorem VY(b m:Nat)(E:Int)(d:m<4503599627370496)(l: -1200<=E/\E<=53)
  (h:∀w,Calls Tryz.prog 166 #[.float .f64 b] w fun e w'=>e=.returned (.tuple #[.float .f64 (4602678819172646912+m),.int .i64 E])/\w'=w) (w:World):
  Calls Tryz.prog 139 #[.float .f64 b] w fun e w'=>e=.returned (.int .i64 (((4503599627370496+m)*1000/2^min (53-E).toNat 64:Nat):Int))/\w'=w:=by
 have i:=run_float_arith (P:=Tryz.prog) w .mul 23 .f64 _ 4845873199050653696 _ (qN m d);have j:=run_convert_float_int (P:=Tryz.prog) w 23 265 .f64 .u64 _ _ (by rw[Tryz.underlying23];rfl) Tryz.underlying265 (qM m d);go_enter Tryz.func139,Tryz.ntmps139
 go_wp2_with (first
  |(go_at_call 166;refine(h _).mono ?_;rintro e w1 ⟨rfl,rfl⟩)
  |fail)
 go_ret;have f:((4503599627370496+(m:Int))*1000/2^min (53-E).toNat 64)=(((4503599627370496+m)*1000/2^min (53-E).toNat 64:Nat):Int):=by
  generalize min (53-E).toNat 64=k;rw[Int.natCast_ediv,Int.natCast_mul,Int.natCast_add,Int.natCast_pow];rfl
 have n:(4503599627370496+m)*1000/2^min (53-E).toNat 64<=(4503599627370496+m)*1000:=Nat.div_le_self _ _;rw[f];generalize (4503599627370496+m)*1000/2^min (53-E).toNat 64=q at*;rw[show wrap64 (q:Int)=q by unfold wrap64;omega];exact⟨rfl,rfl⟩
theorem oD(b:Nat)(d:0<b)(j:b<4652007308841189376)(w:World):Calls Tryz.prog 139 #[.float .f64 b] w fun e w'=>e=.returned (.int .i64 (milN b:Nat))/\w'=w:=by
 by_cases h:b<4503599627370496
 ·obtain⟨y,i,l⟩:=Za b d h
  have f:y%4503599627370496<4503599627370496:=Nat.mod_lt _ (by decide);refine(VY b (y%4503599627370496) (-52+((y/4503599627370496:Nat):Int)-1022) f (by omega) (US b _ _ (Va b y (-52) d (by omega) (by omega) (by omega) (qI b y h i))) w).mono ?_;rintro e w' ⟨rfl,rfl⟩;rw[milN,if_pos h,show min (53-(-52+((y/4503599627370496:Nat):Int)-1022)).toNat 64=64 by omega,Nat.div_eq_of_lt (by omega)];exact⟨rfl,rfl⟩
 ·have f:b%4503599627370496<4503599627370496:=Nat.mod_lt _ (by decide)
  refine(VY b (b%4503599627370496) (0+((b/4503599627370496:Nat):Int)-1022) f (by omega) (US b _ _ (Va b b 0 d (by omega) (by omega) (by omega) (qH b (by omega) (by omega)))) w).mono ?_;rintro e w' ⟨rfl,rfl⟩;rw[milN,if_neg h];by_cases k:b/4503599627370496<=1011
  ·rw[show min (53-(0+((b/4503599627370496:Nat):Int)-1022)).toNat 64=64 by omega,Nat.div_eq_of_lt (by omega),Nat.div_eq_of_lt]
   ·exact⟨rfl,rfl⟩
   ·refine Nat.lt_of_lt_of_le (m:=2^64) (by omega) (Nat.pow_le_pow_right (by decide) (by omega))
  ·rw[show min (53-(0+((b/4503599627370496:Nat):Int)-1022)).toNat 64=1075-b/4503599627370496 by omega]
   exact⟨rfl,rfl⟩
theorem lc(b:Nat)(j:b<18446744073709551616)(w:World):Calls Tryz.prog 100 #[.float .f64 b] w fun e w'=>e=.returned (.int .i64 (milZ b:Nat))/\w'=w:=by
 have h:(FloatKind.f64.format.order b 0==some .gt)=Ka b:=ZS b j;unfold milZ;cases d:Ka b
 ·rw[d]at h
  go_enter Tryz.func100,Tryz.ntmps100;go_wp2;go_ret;exact⟨rfl,rfl⟩
 ·have i:(FloatKind.f64.format.order b 4652007308841189376==some .gt||FloatKind.f64.format.order b 4652007308841189376==some .eq)=decide (4652007308841189376<=b):=bH b d
  rw[d]at h;have hp:0<b:=(of_decide_eq_true d).1;by_cases f:4652007308841189376<=b
  ·rw[decide_eq_true f]at i
   rw[if_pos rfl,if_pos f];go_enter Tryz.func100,Tryz.ntmps100;go_wp2;go_ret;exact⟨rfl,rfl⟩
  ·rw[decide_eq_false f]at i
   rw[if_pos rfl,if_neg f];go_enter Tryz.func100,Tryz.ntmps100
   go_wp2_with (first
    |(go_at_call 139;refine(oD b hp (by omega) _).mono ?_;rintro e w1 ⟨rfl,rfl⟩)
    |fail)
   go_ret;exact⟨rfl,rfl⟩
end Go.Proofs.YtfpmnekaockodaaGreatDoor
