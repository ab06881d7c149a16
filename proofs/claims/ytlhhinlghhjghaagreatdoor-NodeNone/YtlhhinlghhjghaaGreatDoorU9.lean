/-
  What the rows' frames of the node share: the two tables as the rows list them, a config that came in by value. No condition.
  Communication of one goroutine inside the walk: 'WpN', as the walk's own 'Code.wp', of frames of ordinary calls alone; a select of one case with a default as the first operation of a region. No condition.
  Memory of which only some blocks have turned ('Tu'). No condition.
  Plain mathematics of a basis of rows of bits, the rows being numbers: what is left of a row, one more row, the span, and that a basis whose lowest bits rise and stand in no other row is one. Of no program, no condition.
  Rows of words as numbers, and what echelon's calls and the reference's tell of rows, on plain lists: the two agree on a basis. Of no program; words below 2^64.
  A slice of words cut at its end. No condition.
-/
import Derived.Test.YtlhhinlghhjghaaGreatDoorU8
import Derived.Laws.Cover2
import Derived.Test.YtlhhinlghhjghaaGreatDoorChecked
import Derived.Conc.LoneSelect
import Derived.Test.YtlhhinlghhjghaaGreatDoorU2
import Derived.Test.YtlhhinlghhjghaaGreatDoorU0
import Derived.Test.YtlhhinlghhjghaaGreatDoorU1
namespace Go.Proofs.YtlhhinlghhjghaaGreatDoor
open Go.ChangeShapes Go.WideShapes Go.ChangeAt Go.RowKit
set_option linter.unusedVariables false
set_option linter.unusedSimpArgs false
set_option maxRecDepth 4000
variable {fuel:Nat}{H:Type}{v:Value}{W:World}
theorem gPl : Tryz.prog.globalNamed "bucketline/soliton.plain" = some 1 := by kernel_rfl
theorem Zye:(Tryz.prog.globals[1]?).map (·.type)=some 380:=by kernel_rfl
theorem Zyu:Tryz.prog.cellsOf 380=127:=by kernel_rfl
theorem ZxU:Tryz.prog.cellsOf 95=1:=by kernel_rfl
def plainL:List Int:=[524288,174762,87381,52428,34952,24966,18724,14563,11650,9532,7943,6721,5761,4993,4369,3855,3426,3066,2759,2496,2269,2072,1899,1747,1613,1493,1387,1291,1205,1127,1057,992,934,881,832,787,745,707,672,639,608,580,554,529,506,485,464,445,427,411,395,380,366,353,340,328,317,306,296,286,277,268,260,252,244,237,230,223,217,210,205,199,194,188,183,179,174,170,165,161,157,154,150,146,143,140,136,133,130,128,125,122,119,117,114,112,110,108,105,103,101,99,97,96,94,92,90,89,87,85,84,82,81,79,78,77,75,74,73,72,71,69,68,67,66,65,64]
theorem ZoZ:plainL.length=127:=by decide+kernel
theorem Zp9(i:Nat)(hi:i<127):plainL.getD i 0=((1048576/((i+2)*(i+1)):Nat):Int):=by
 have h:∀j:Fin 127,plainL.getD j.val 0=((1048576/((j.val+2)*(j.val+1)):Nat):Int):=by decide+kernel
 exact h ⟨i,hi⟩
theorem ZsL{P:Program}{w:World}{x:String×DataW Unit}{r:List (String×DataW Unit)}(h:laidMet P (x::r) w):laidMet P r w:=by
 obtain⟨ps,⟨g,t,cs,fuel,p,q,_,_,_,_,hq,rfl⟩,hnd,hrows⟩:=h
 exact⟨q,hq,(List.nodup_append.1 hnd).2.1,fun b off hp=>hrows b off (List.mem_append_right _ hp)⟩
set_option maxRecDepth 100000 in
theorem ZAx {W : World} (h : laidMetH Tryz.prog Rows.nodeCrashRow.laid W) : Lib.TabIs Tryz.prog W "bucketline/soliton.plain" .u32 plainL :=
 Lib.tabIs_of_head (rest:=[]) gPl Zye Tryz.underlying380 Tryz.underlying95 ZxU Zyu (ZsL h)
structure Tabs(w:World):Prop where
 tab:Tab w
 pl:PTab w
theorem Tabs.below{w w':World}(h:Tabs w)(hb:Below w.heap.size w w'):Tabs w':=⟨h.tab.below hb,h.pl.below hb⟩
theorem Zyk(h:laidMetH Tryz.prog Rows.nodeCrashRow.laid W):Tabs W:=
 ⟨ZAA h,fun i hi=>by rw[(ZAx h).cell gPl i (by rw[ZoZ];exact hi),Zp9 i hi]⟩
theorem ZwL{b:Nat}(h:(Lit.float .f64 b).wf=true):b<18446744073709551616:=by simpa [Lit.wf]using h
theorem Zn7{enc:TypeId×Value→H}{x:DataW H×List MemPlace}
  (h:DataW.trod enc Tryz.prog W 0 (fun _=>true) true fuel 23 [v]=some x):∃b,v=.float .f64 b∧b<18446744073709551616:=by
 cases fuel with
 |zero=>simp[DataW.trod]at h
 |succ fuel=>
  cases v<;>simp[DataW.trod,Tryz.underlying23]at h
  obtain⟨⟨rfl,h⟩,_⟩:=h
  exact⟨_,rfl,ZwL h⟩
theorem Zp3{enc:TypeId×Value→H}{x:DataW H×List MemPlace}
  (h:DataW.trod enc Tryz.prog W 0 (fun _=>true) true fuel 83 [v]=some x):∃a len cap xs,v=.slice a len cap∧IntzAt W a len xs∧len≤9223372036854775807∧(a=none→len=0∧cap=0):=by
 rcases open_ints Tryz.underlying83 Tryz.underlying3 (by kernel_rfl) h with⟨hcs,_⟩|⟨x,l,c,zs,hcs,_,hl,hm,hz,_,hcell,hwz⟩
 ·simp only[List.cons.injEq,and_true]at hcs
  exact⟨_,_,_,[],hcs,⟨rfl,.inl rfl⟩,by decide,fun _=>⟨rfl,rfl⟩⟩
 ·simp only[List.cons.injEq,and_true]at hcs
  have hzl:zs.length=c:=by simpa using hz
  refine⟨_,_,_,zs.take l,hcs,⟨by simp;omega,?_⟩,Nat.le_trans hl (Zl5 hm),fun e=>by cases e⟩
  by_cases h0:l=0
  ·exact .inl h0
  ·obtain⟨b,off,spot⟩:=x
   have hc:=hcell 0 (by omega)
   have hspot:spot=none:=by simpa [Addr.add]using World.cell?_spot hc
   subst hspot
   refine .inr ⟨b,off,rfl,fun i hi=>?_⟩
   have hci:=hcell i (by omega)
   rw[Zfn]at hci
   rw[hci]
   simp[List.getD_eq_getElem?_getD,hi]
theorem Zyz:Tryz.prog.cellsOf 85=2:=by kernel_rfl
theorem ZyR:Tryz.prog.cellsOf 25=10:=by kernel_rfl
theorem ZwU{enc:TypeId×Value→H}{cs:List Value}{x:DataW H×List MemPlace}(hl2:cs.length=2)
  (h:DataW.trod enc Tryz.prog W 0 (fun _=>true) true fuel 85 cs=some x):∃d:NDV,cs=[.int .i64 d.kd,.slice d.a d.n d.c]∧IntzAt W d.a d.n d.tos∧d.n≤9223372036854775807∧(d.a=none→d.n=0∧d.c=0):=by
 match cs,hl2 with
 |[c0,c1],_=>
  obtain⟨ys,n,_,_,_,hlen,hf⟩:=DataW.trod_struct Tryz.underlying85 h
  have hl:ys.length=2:=hlen
  obtain⟨y0,e0⟩:=Zb4 (l:=ys) (i:=0) (by omega)
  obtain⟨y1,e1⟩:=Zb4 (l:=ys) (i:=1) (by omega)
  obtain⟨kd,rfl⟩:=ZcJ ((hf 0 _ rfl).trans e0)
  obtain⟨a,len,cap,xs,rfl,h1,h2,h3⟩:=Zp3 ((hf 1 _ rfl).trans e1)
  exact⟨⟨kd,a,len,cap,xs⟩,rfl,h1,h2,h3⟩
theorem ZnC(Q:Nat→NDV→Prop):∀n,(∀i,i<n→∃r,Q i r)→∃rs:List NDV,rs.length=n∧∀i,i<n→Q i (rs.getD i .dflt)
 |0,_=>⟨[],rfl,fun i hi=>by omega⟩
 |n+1,h=>by
  obtain⟨rs,hl,hr⟩:=ZnC Q n (fun i hi=>h i (by omega))
  obtain⟨r,hp⟩:=h n (by omega)
  refine⟨rs++[r],by simp[hl],fun i hi=>?_⟩
  by_cases e:i<n
  ·have:=hr i e
   rwa[show(rs++[r]).getD i .dflt=rs.getD i .dflt from by simp[List.getD_eq_getElem?_getD,List.getElem?_append_left (show i<rs.length by omega)]]
  ·obtain rfl:i=n:=by omega
   rwa[show(rs++[r]).getD i .dflt=r from by simp[List.getD_eq_getElem?_getD,←hl]]
structure CfIn(w:World)(f:CFV):Prop where
 nds:NdsAt w f.a f.n f.ds
 len:f.n≤9223372036854775807
 obj:f.obj.size≤9223372036854775807
 rate:f.rate<18446744073709551616
 tos:∀i,i<f.n→(f.ds.getD i .dflt).n≤9223372036854775807∧((f.ds.getD i .dflt).a=none→(f.ds.getD i .dflt).n=0∧(f.ds.getD i .dflt).c=0)
theorem ZqN{enc:TypeId×Value→H}{y:DataW H×List MemPlace}
  (hf:DataW.trod enc Tryz.prog W 0 (fun _=>true) true fuel 22 [v]=some y):∃a len cap qs,v=.slice a len cap∧NdsAt W a len qs∧len≤9223372036854775807∧∀i,i<len→(qs.getD i .dflt).n≤9223372036854775807∧((qs.getD i .dflt).a=none→(qs.getD i .dflt).n=0∧(qs.getD i .dflt).c=0):=by
 rcases Go.Deep.open_slice Tryz.underlying22 hf with⟨hcs,_⟩|⟨x,l,c,m,n,D,Pl,hcs,_,hl,hm,hmm,_,hx⟩
 ·simp only[List.cons.injEq,and_true]at hcs
  exact⟨_,_,_,[],hcs,⟨rfl,fun i hi=>by omega,.inl rfl⟩,by decide,fun i hi=>by omega⟩
 ·simp only[List.cons.injEq,and_true]at hcs
  have hmc:m=c:=by simpa using hmm
  have hcap:=Zl5 hm
  obtain⟨qs,hql,hq⟩:=ZnC (fun i d=>(∀j u,[(.int .i64 d.kd:Value),.slice d.a d.n d.c][j]? =some u→W.cell? ((x.add (i*2)).add j)=some u)∧IntzAt W d.a d.n d.tos∧d.n≤9223372036854775807∧(d.a=none→d.n=0∧d.c=0)) l (fun i hi=>by
   obtain⟨cs',h1,h2⟩:=hx i (by omega)
   rw[Zyz]at h1
   obtain⟨_,hlen,hcell⟩:=World.cells?_some h1
   obtain⟨p,rfl,hr⟩:=ZwU hlen h2
   exact⟨p,fun j u hj=>(hcell j (by have:=(List.getElem?_eq_some_iff.1 hj).1;simpa using this)).trans hj,hr⟩)
  refine⟨_,_,_,qs,hcs,⟨hql,fun i hi=>(hq i hi).2.1,?_⟩,by omega,fun i hi=>(hq i hi).2.2⟩
  by_cases h0:l=0
  ·exact .inl h0
  ·obtain⟨b,off,spot⟩:=x
   have hc:=(hq 0 (by omega)).1 0 _ rfl
   have hspot:spot=none:=by simpa [Addr.add]using World.cell?_spot hc
   subst hspot
   refine .inr ⟨b,off,rfl,fun i hi=>?_⟩
   have hc:=(hq i hi).1
   refine⟨?_,?_⟩
   ·have:=hc 0 _ rfl;rwa[Zfn,Zfn]at this
   ·have:=hc 1 _ rfl;rwa[Zfn,Zfn]at this
theorem ZAy{enc:TypeId×Value→H}{base:Nat}{d:DataW H}{ps:List MemPlace}(hv:Value.okWide Tryz.prog W .any base 25 v)
  (h:DataW.Trod enc Tryz.prog W 0 (fun _=>true) true 25 v d ps):∃f:CFV,v=f.val∧CfIn W f:=by
 obtain⟨cs,rfl,hsz⟩:=okWide_struct Tryz.underlying25 hv
 obtain⟨fuel,hf⟩:=h
 obtain⟨cs⟩:=cs
 match cs,hsz.trans ZyR with
 |[c0,c1,c2,c3,c4,c5,c6,c7,c8,c9],_=>
  obtain⟨ys,n,_,_,_,hlen,hf⟩:=DataW.trod_struct Tryz.underlying25 hf
  have hl:ys.length=10:=hlen
  obtain⟨y0,e0⟩:=Zb4 (l:=ys) (i:=0) (by omega)
  obtain⟨y1,e1⟩:=Zb4 (l:=ys) (i:=1) (by omega)
  obtain⟨y2,e2⟩:=Zb4 (l:=ys) (i:=2) (by omega)
  obtain⟨y3,e3⟩:=Zb4 (l:=ys) (i:=3) (by omega)
  obtain⟨y4,e4⟩:=Zb4 (l:=ys) (i:=4) (by omega)
  obtain⟨y5,e5⟩:=Zb4 (l:=ys) (i:=5) (by omega)
  obtain⟨y6,e6⟩:=Zb4 (l:=ys) (i:=6) (by omega)
  obtain⟨y7,e7⟩:=Zb4 (l:=ys) (i:=7) (by omega)
  obtain⟨y8,e8⟩:=Zb4 (l:=ys) (i:=8) (by omega)
  obtain⟨y9,e9⟩:=Zb4 (l:=ys) (i:=9) (by omega)
  obtain⟨a,len,cap,qs,rfl,g1,g2,g3⟩:=ZqN ((hf 0 _ rfl).trans e0)
  obtain⟨s,rfl,gs⟩:=ZuQ ((hf 1 _ rfl).trans e1)
  obtain⟨x2,rfl⟩:=ZcJ ((hf 2 _ rfl).trans e2)
  obtain⟨x3,rfl⟩:=ZcJ ((hf 3 _ rfl).trans e3)
  obtain⟨x4,rfl⟩:=ZcJ ((hf 4 _ rfl).trans e4)
  obtain⟨x5,rfl⟩:=ZcJ ((hf 5 _ rfl).trans e5)
  obtain⟨x6,rfl⟩:=ZcJ ((hf 6 _ rfl).trans e6)
  obtain⟨x7,rfl,gr⟩:=Zn7 ((hf 7 _ rfl).trans e7)
  obtain⟨x8,rfl⟩:=ZcJ ((hf 8 _ rfl).trans e8)
  obtain⟨x9,rfl⟩:=ZcJ ((hf 9 _ rfl).trans e9)
  exact⟨⟨a,len,cap,qs,s,x2,x3,x4,x5,x6,x7,x8,x9⟩,rfl,⟨g1,g2,gs,gr,g3⟩⟩
end Go.Proofs.YtlhhinlghhjghaaGreatDoor
namespace Go.Proofs.YtlhhinlghhjghaaGreatDoor
open Go.RowKit Go.Conc
set_option linter.unusedVariables false
set_option linter.unusedSimpArgs false
set_option maxRecDepth 4000
def WpN(P:Program)(c:Code)(Q:Exit→Act→World→Prop)(a:Act)(w:World):Prop:=
 ∀(b:Frame) (k:List Item) (cs:List Frame),b.kind≠ .early→∃e a' w',Q e a' w'∧Arrives P (lone (b.at a (.code c::k)) cs w) b k cs e a' w'
section
variable {P:Program} {Q:Exit→Act→World→Prop} {a:Act} {w:World}
theorem ZnG{c:Code}(h:c.wp P Q a w):WpN P c Q a w:=fun b k cs _=>h b k cs
theorem ZiT{x y:Code}(h:WpN P x (Exit.then (WpN P y Q) Q) a w):WpN P (.seq x y) Q a w:=by
 intro b k cs hb
 obtain⟨e,a1,w1,hq,hr⟩:=h b (.code y::k) cs hb
 by_cases he:e=.normal
 ·subst he
  obtain⟨e2,a2,w2,hq2,hr2⟩:=hq b k cs hb
  exact⟨e2,a2,w2,hq2,Arrives.of_steps (Steps.head step_seq hr) hr2⟩
 ·have hs:=Arrives.of_steps (Steps.one (step_seq (P:=P) (b:=b) (a:=a) (k:=k) (cs:=cs) (w:=w) (x:=x) (y:=y))) (Arrives.pass (x:=.code y) rfl (fun _ _=>.inl he) hr)
  refine⟨e,a1,w1,?_,hs⟩
  cases e<;>first|exact absurd rfl he|exact hq
theorem ZbH{x y:Code}(h:∀K:Act→World→Prop,(∀a w,WpN P y Q a w→K a w)→x.wp P (Exit.then K Q) a w):WpN P (.seq x y) Q a w:=
 ZiT (ZnG (h _ fun _ _ h=>h))
theorem Zdu{f:FuncId}{fn:Func}{c:Code}{args:Array Value}{R:Ending→World→Prop}
  (hf:P.funcs[f]? =some fn) (hb:fn.body=some c) (hno:∀w',¬R .outgrown w')
  (h:WpN P c (bodyPost P fn R) {tmps:=args++Array.replicate (fn.ntmps-args.size) undef,defers:=[]} w):Calls P f args w R:=by
 refine calls_of_loneTo (fun cs=>?_) hno
 have hen:Frame.enter P f args .normal=(base f).at {tmps:=args++Array.replicate (fn.ntmps-args.size) undef,defers:=[]} [.code c]:=by
  simp[Frame.enter,Frame.at,hf,hb,base]
 rw[hen]
 obtain⟨e,a',w',hq,hr⟩:=h (base f) [] cs (by simp[base])
 match e,hq,hr with
 | .normal,⟨hd,v,hv,hR⟩,hr=>exact⟨_,w',hr.trans (.one step_end),.returned v,_,rfl,hR,rfl,rfl,hd,rfl,fn,hf,hv⟩
 | .ret,⟨hd,v,hv,hR⟩,⟨_,hr⟩=>exact⟨_,w',hr,.returned v,_,rfl,hR,rfl,rfl,hd,rfl,fn,hf,hv⟩
 | .panic chain,⟨hd,hR⟩,⟨_,hr⟩=>exact⟨_,w',hr,.panicked chain,_,rfl,hR,rfl,rfl,hd,fn,hf⟩
 | .exit _,hq,_=>exact hq.elim
 | .goto _,hq,_=>exact hq.elim
 | .outgrown,hq,_=>exact absurd hq (hno _)
def Does(P:Program)(o:Oper)(a:Act)(w:World)(v:Value)(w':World):Prop:=
 ∀(b:Frame) (ops:Array Oper) (i:Nat) (rest:List Nat) (k:List Item) (cs:List Frame),b.kind≠ .early→ops[i]? =some o→Region.wanted o (yielded ops a.tmps)=true→
  step P (lone (b.at a (.inRegion ops (i::rest)::k)) cs w)=.next (lone (b.at (a.put o.dst v) (.inRegion ops rest::k)) cs w')
theorem ZgE{id:Nat}{o:Oper}{l:List Oper}{v:Value}{w':World}(hg:o.guard=none)(hd:Does P o a w v w')
  (h:wpList P (o::l).toArray Q l (a.put o.dst v) w'):WpN P (.region id (o::l).toArray false) Q a w:=by
 intro b k cs hb
 have hw:Region.wanted o (yielded (o::l).toArray a.tmps)=true:=by simp[Region.wanted,hg]
 have h1:=hd b (o::l).toArray 0 (List.range' 1 l.length) k cs hb (by simp) hw
 have h2:=wpOps_eq_wpList (P:=P) (ops:=(o::l).toArray) (Q:=Q) l 1 (fun j=>by simp[Nat.add_comm 1 j])
 rw[←h2]at h
 obtain⟨e,a₁,w₁,hq,harr⟩:=wp_ops _ _ _ h b k cs
 have h3:=step_region (P:=P) (b:=b) (a:=a) (k:=k) (cs:=cs) (w:=w) (ops:=(o::l).toArray) (id:=id)
 have h4:List.range (o::l).toArray.size=0::List.range' 1 l.length:=by
  rw[List.size_toArray,List.length_cons,List.range_eq_range',List.range'_succ]
 rw[h4]at h3
 exact⟨e,a₁,w₁,hq,.of_steps (.head h3 (.one h1)) harr⟩
section
variable {o:Oper} {c cap s r:Nat} {buf:Array Value} {z v:Value} {tm:Bool}
theorem ZhN(hr:(execOp a.eval o).run P w=.ok (.comm #[scase c v z] false .select) w)(hc:w.heap[c]? =some (.chan cap buf false s r tm))(hroom:buf.size<cap):
  Does P o a w (.tuple #[goInt 0,.bool false]) (w.setChan c cap (buf.push v) false (s+1) r tm):=by
 intro b ops i rest k cs hb ho hw
 rw[lone_eq_solo,step_lone_select_send_room (stepG_comm ho hw hb hr) hc hroom,Frame.finish_at,ho]
 rfl
theorem ZhQ(hr:(execOp a.eval o).run P w=.ok (.comm #[scase c v z] false .select) w)(hc:w.heap[c]? =some (.chan cap buf false s r tm))(hfull:cap≤buf.size):
  Does P o a w (.tuple #[goInt (-1),.bool false]) w:=by
 intro b ops i rest k cs hb ho hw
 rw[lone_eq_solo,step_lone_select_send_full (stepG_comm ho hw hb hr) hc hfull,Frame.finish_at,ho]
 rfl
theorem ZhK(hr:(execOp a.eval o).run P w=.ok (.comm #[rcase c z] false .select) w)(hc:w.heap[c]? =some (.chan cap buf false s r tm))(hsome:0<buf.size):
  Does P o a w (.tuple #[goInt 0,.bool true,buf.getD 0 undef]) (w.setChan c cap (buf.extract 1 buf.size) false s (r+1) tm):=by
 intro b ops i rest k cs hb ho hw
 rw[lone_eq_solo,step_lone_select_recv_buf (stepG_comm ho hw hb hr) hc hsome,Frame.finish_at,ho]
 rfl
end
end
end Go.Proofs.YtlhhinlghhjghaaGreatDoor
namespace Go.Proofs.YtlhhinlghhjghaaGreatDoor
open Go.RowKit
set_option linter.unusedVariables false
set_option linter.unusedSimpArgs false
set_option maxRecDepth 4000
variable {F:Nat→Prop}{w w1 w2 w':World}
structure Tu(F:Nat→Prop)(w w':World):Prop where
 os:w'.os=w.os
 tape:w'.tape=w.tape
 output:w'.output=w.output
 size:w.heap.size≤w'.heap.size
 block:∀k,k<w.heap.size→¬F k→w'.heap[k]? =w.heap[k]?
theorem Tu.refl(F:Nat→Prop)(w:World):Tu F w w:=⟨rfl,rfl,rfl,Nat.le_refl _,fun _ _ _=>rfl⟩
theorem Tu.trans{G:Nat→Prop}(h:Tu F w w1)(k:Tu G w1 w2)(hr:∀j,j<w.heap.size→G j→F j):Tu F w w2:=
 ⟨k.os.trans h.os,k.tape.trans h.tape,k.output.trans h.output,Nat.le_trans h.size k.size,fun j hj hn=>(k.block j (Nat.lt_of_lt_of_le hj h.size) fun hg=>hn (hr j hj hg)).trans (h.block j hj hn)⟩
theorem Tu.of_below(h:Below w.heap.size w w'):Tu F w w':=⟨h.os,h.tape,h.output,h.size,fun j hj _=>h.block j hj⟩
theorem Tu.of_gb{r:Option Nat}(h:w.grownBy w' r)(hr:∀j,j<w.heap.size→r=some j→F j):Tu F w w':=
 ⟨h.os,h.tape,h.output,h.size,fun j hj hn=>h.block j hj fun e=>hn (hr j hj e.symm)⟩
theorem Tu.below(h:Tu F w w'){B:Nat}(hB:B≤w.heap.size)(hF:∀j,j<B→¬F j):Below B w w':=
 ⟨h.os,h.tape,h.output,h.size,fun j hj=>h.block j (Nat.lt_of_lt_of_le hj hB) (hF j hj)⟩
theorem Tu.then(h:Tu F w w1)(k:Below w1.heap.size w1 w2):Tu F w w2:=h.trans (Tu.of_below (F:=F) k) fun _ _ h=>h
theorem Tu.after(h:Below w.heap.size w w1)(k:Tu F w1 w2):Tu F w w2:=(Tu.of_below (F:=F) h).trans k fun _ _ h=>h
theorem Own.blkU{B g:Nat}{v:Value}{xs:List Nat}(h:Own w B v xs)(hk:v.ownBlock=some g):∃cur,w.heap[g]? =some (.cells cur 69 (0,0)):=by
 rcases h.2.2 with⟨rfl,_⟩|⟨g',cap,cur,rfl,_,hg,_⟩
 ·cases hk
 ·simp only[Value.ownBlock,Option.some.injEq]at hk
  exact⟨cur,hk▸hg⟩
theorem Own.tu{B:Nat}{v:Value}{xs:List Nat}(h:Own w B v xs)(ht:Tu F w w')(hF:∀j,v.ownBlock=some j→¬F j):Own w' B v xs:=by
 refine⟨h.1,h.2.1,?_⟩
 rcases h.2.2 with h0|⟨g,cap,cur,h1,hg,hgg,r⟩
 ·exact .inl h0
 ·exact .inr ⟨g,cap,cur,h1,hg,(ht.block g (Array.getElem?_eq_some_iff.1 hgg).1 (hF g (by rw[h1];rfl))).trans hgg,r⟩
theorem ZeI{q:Nat}(h:Below w.heap.size w w1)(ht:Tu (fun j=>j=q) w1 w2)(hq:w.heap.size≤q):Below w.heap.size w w2:=
 h.trans (ht.below h.size fun j hj e=>by omega)
end Go.Proofs.YtlhhinlghhjghaaGreatDoor
namespace Go.Proofs.YtlhhinlghhjghaaGreatDoor.Ech
def lowF:Nat→Nat→Nat
 |0,_=>0
 |f+1,x=>if x%2=1 then 0 else lowF f (x/2)+1
def low(x:Nat):Nat:=lowF x x
end Go.Proofs.YtlhhinlghhjghaaGreatDoor.Ech
namespace Go.Proofs.YtlhhinlghhjghaaGreatDoor
open Go.RowKit
set_option linter.unusedVariables false
set_option linter.unusedSimpArgs false
set_option maxRecDepth 4000
variable {B l:List (List Nat)}{r b xs:List Nat}{M k:Nat}
def val:List Nat→Nat
 |[]=>0
 |x::r=>2^64*val r+x
theorem smalls.tail{x:Nat}(h:smalls (x::r)):smalls r:=fun y hy=>h y (List.mem_cons_of_mem _ hy)
theorem smalls.nil:smalls []:=fun _ h=>by cases h
theorem ZaM:∀{xs:List Nat},smalls xs→∀i,(val xs).testBit i=getB xs i
 |[],_,i=>by simp[val,getB]
 |x::r,h,i=>by
  have hx:x<2^64:=h x List.mem_cons_self
  rw[val,Nat.testBit_two_pow_mul_add _ hx]
  unfold getB
  by_cases hi:i<64
  ·rw[if_pos hi,show i/64=0 by omega,show i%64=i by omega];rfl
  ·rw[if_neg hi,ZaM h.tail,getB,show i/64=(i-64)/64+1 by omega,show i%64=(i-64)%64 by omega];rfl
theorem Zm6(a b:List Nat)(i:Nat):getB (xorL a b) i=(getB a i^^getB b i):=by
 unfold getB
 rw[Zau,Nat.testBit_xor]
theorem Zs8{a:List Nat}(ha:smalls a)(hb:smalls b):val (xorL a b)=val a^^^val b:=by
 apply Nat.eq_of_testBit_eq
 intro i
 rw[ZaM (Zd1 ha hb),Zm6,Nat.testBit_xor,ZaM ha,ZaM hb]
theorem ZuR:val xs=0↔∀x∈xs,x=0:=by
 induction xs with
 |nil=>simp[val]
 |cons x r ih=>
  rw[val]
  constructor
  ·intro h y hy
   rcases List.mem_cons.1 hy with e|hy
   ·omega
   ·exact ih.1 (by omega) y hy
  ·intro h
   have h0:=h x List.mem_cons_self
   have h1:=ih.2 fun y hy=>h y (List.mem_cons_of_mem _ hy)
   omega
theorem Zep:∀(xs:List Nat),0≤firstI xs→∃k,k<xs.length∧(∀j,j<k→xs.getD j 0=0)∧xs.getD k 0≠0∧firstI xs=(k:Int)*64+Lib.ctz 64 (xs.getD k 0)
 |[],h=>by simp[firstI]at h
 |x::r,h=>by
  by_cases hx:x=0
  ·have hr:0≤firstI r:=by
    simp only[firstI,hx]at h
    split at h
    ·omega
    ·split at h
     ·omega
     ·omega
   obtain⟨k,hk,hz,hne,he⟩:=Zep r hr
   have hz':∀j,j<k+1→(x::r).getD j 0=0:=by
    intro j hj
    cases j with
    |zero=>simpa using hx
    |succ j=>simpa using hz j (by omega)
   have hk':k+1<(x::r).length:=by simpa using hk
   have hne':(x::r).getD (k+1) 0≠0:=by simpa using hne
   exact⟨k+1,hk',hz',hne',Zfm _ _ hk' hz' hne'⟩
  ·have hk':0<(x::r).length:=by simp
   have hne':(x::r).getD 0 0≠0:=by simpa using hx
   exact⟨0,hk',fun j hj=>by omega,hne',Zfm _ _ hk' (fun j hj=>by omega) hne'⟩
theorem Zbx(hs:smalls xs):firstI xs=if val xs=0 then -1 else(Ech.low (val xs):Int):=by
 rcases ZfZ xs with h|h
 ·have h1:=ZuR.2 ((ZcS xs).1 (by omega))
  rw[h,if_pos h1]
 ·obtain⟨k,hk,hz,hne,he⟩:=Zep xs h
  have hx:=hs.get k
  have hc:=Zm1 (xs.getD k 0) hne hx
  have hb:=Zrq (xs.getD k 0) hne hx
  have hl:=fun j hj=>ZtJ (xs.getD k 0) j hne hx hj
  generalize Lib.ctz 64 (xs.getD k 0)=t at*
  have h1:(val xs).testBit (64*k+t)=true:=by rw[ZaM hs,ZiZ xs k t hc];exact hb
  have h2:∀j,j<64*k+t→(val xs).testBit j=false:=fun i hi=>by
   rw[ZaM hs]
   unfold getB
   by_cases e:i/64<k
   ·rw[hz _ e];simp
   ·rw[show i/64=k by omega];exact hl _ (by omega)
  rw[if_neg (Ech.ne_of_bit h1),Ech.low_unique h1 h2,he]
  omega
theorem Zkm(hs:smalls xs):firstI xs<64*(xs.length:Int)∧ -1≤firstI xs:=by
 rcases ZfZ xs with h|h
 ·omega
 ·obtain⟨k,hk,hz,hne,he⟩:=Zep xs h
  have hc:=Zm1 (xs.getD k 0) hne (hs.get k)
  omega
theorem ZbM(hs:smalls xs):firstI xs<0↔val xs=0:=by
 rw[Zbx hs]
 split
 ·rename_i h;simp[h]
 ·rename_i h
  constructor
  ·intro k;omega
  ·intro k;exact absurd k h
theorem ZjB{ys:List Nat}(hx:smalls xs)(hy:smalls ys):getI xs (firstI ys)=(decide (val ys≠0)&&(val xs).testBit (Ech.low (val ys))):=by
 rw[Zbx hy]
 split
 ·rename_i h;simp[h,getI]
 ·rename_i h
  rw[ZgA,ZaM hx]
  simp[h]
def ZcX(r b:List Nat):List Nat:=if getI r (firstI b)=true then xorL r b else r
def reduceL(B:List (List Nat))(v:List Nat):List Nat:=B.foldl ZcX v
theorem Zd3(hr:smalls r)(hb:smalls b):smalls (ZcX r b):=by
 unfold ZcX
 split
 ·exact Zd1 hr hb
 ·exact hr
theorem Zi2(hr:smalls r)(hb:smalls b):val (ZcX r b)=if val b≠0∧(val r).testBit (Ech.low (val b))=true then val r^^^val b else val r:=by
 unfold ZcX
 rw[ZjB hr hb]
 by_cases h1:val b=0
 ·simp[h1]
 ·by_cases h2:(val r).testBit (Ech.low (val b))=true
  ·simp[h1,h2,Zs8 hr hb]
  ·simp[h1,h2]
theorem Zhy(r b:List Nat)(M:Nat)(hr:r.length≤M)(hb:b.length≤M):(ZcX r b).length≤M:=by
 unfold ZcX
 split
 ·rw[Zae];omega
 ·exact hr
def Fit(M:Nat)(B:List (List Nat)):Prop:=∀b∈B,smalls b∧b.length≤M
theorem Fit.nil(M:Nat):Fit M []:=fun _ h=>by cases h
theorem Fit.tail(h:Fit M (b::B)):Fit M B:=fun a ha=>h a (List.mem_cons_of_mem _ ha)
theorem Zao:∀{B:List (List Nat)},Fit M B→∀{v:List Nat},smalls v→v.length≤M→smalls (reduceL B v)∧(reduceL B v).length≤M
 |[],_,v,hv,hl=>⟨hv,hl⟩
 |b::B,h,v,hv,hl=>by
  have hb:=h b List.mem_cons_self
  exact Zao h.tail (Zd3 hv hb.1) (Zhy v b M hl hb.2)
theorem Zbz:∀{B:List (List Nat)},Fit M B→∀{v:List Nat},smalls v→val (reduceL B v)=Ech.red (B.map val) (val v)
 |[],_,v,hv=>rfl
 |b::B,h,v,hv=>by
  have hb:=h b List.mem_cons_self
  show val (reduceL B (ZcX v b))=Ech.red (B.map val) _
  rw[Zbz h.tail (Zd3 hv hb.1),Zi2 hv hb.1]
theorem Zml{v:List Nat}(h:k<B.length):reduceL (B.take (k+1)) v=ZcX (reduceL (B.take k) v) (B.getD k []):=by
 unfold reduceL
 rw[List.take_succ_eq_append_getElem h,List.foldl_append]
 simp[List.getD_eq_getElem?_getD,List.getElem?_eq_getElem h]
theorem Zok{v:List Nat}(h:B.length≤k):reduceL (B.take k) v=reduceL B v:=by rw[List.take_of_length_le h]
def idxL(f:Int):List (List Nat)→Nat
 |[]=>0
 |b::B=>if f<firstI b then 0 else idxL f B+1
theorem Zmb(f:Int):∀B,idxL f B≤B.length
 |[]=>Nat.le_refl _
 |b::B=>by
  simp only[idxL]
  split
  ·exact Nat.zero_le _
  ·have:=Zmb f B;simp only[List.length_cons];omega
def Zge(r:List Nat)(p:Nat)(C:List (List Nat)):List (List Nat):=C.take p++r::C.drop p
theorem ZdU(r:List Nat)(p:Nat)(C:List (List Nat))(h:p≤C.length):(Zge r p C).length=C.length+1:=by
 simp[Zge];omega
theorem Ztk{p:Nat}{C:List (List Nat)}{x:List Nat}:x∈Zge r p C↔x=r∨x∈C:=by
 unfold Zge
 rw[List.mem_append,List.mem_cons]
 constructor
 ·rintro(h|h|h)
  ·exact .inr (List.mem_of_mem_take h)
  ·exact .inl h
  ·exact .inr (List.mem_of_mem_drop h)
 ·rintro(h|h)
  ·exact .inr (.inl h)
  ·rw[←List.take_append_drop p C,List.mem_append]at h
   rcases h with h|h
   ·exact .inl h
   ·exact .inr (.inr h)
theorem ZvT{a:List Nat}(ha:smalls a)(hb:smalls b)(h:val a≠0):firstI a<firstI b↔Ech.low (val a)<Ech.low (val b):=by
 rw[Zbx ha,Zbx hb,if_neg h]
 split
 ·rename_i h0
  rw[h0]
  have:Ech.low 0=0:=rfl
  omega
 ·omega
theorem ZqG(hr:smalls r)(h0:val r≠0):∀{C:List (List Nat)},Fit M C→(Zge r (idxL (firstI r) C) C).map val=Ech.put (val r) (C.map val)
 |[],_=>rfl
 |c::C,h=>by
  have hc:=h c List.mem_cons_self
  have hl:=ZvT hr hc.1 h0
  simp only[idxL,List.map_cons,Ech.put]
  by_cases hlt:firstI r<firstI c
  ·rw[if_pos hlt,if_pos (hl.1 hlt)];rfl
  ·rw[if_neg hlt,if_neg (fun k=>hlt (hl.2 k)),←ZqG hr h0 h.tail];rfl
def ZaH(B:List (List Nat))(v:List Nat):List (List Nat):=
 if firstI (reduceL B v)<0 then B else Zge (reduceL B v) (idxL (firstI (reduceL B v)) (B.map fun b=>ZcX b (reduceL B v))) (B.map fun b=>ZcX b (reduceL B v))
def Zrm(B:List (List Nat))(v:List Nat):List (List Nat):=
 if firstI (reduceL B v)<0 then B else Zge (reduceL B v) (idxL (firstI (reduceL B v)) B) (B.map fun b=>ZcX b (reduceL B v))
theorem Fit.map(h:Fit M B){r:List Nat}(hr:smalls r)(hl:r.length≤M):Fit M (B.map fun b=>ZcX b r):=by
 intro x hx
 obtain⟨b,hb,rfl⟩:=List.mem_map.1 hx
 exact⟨Zd3 (h b hb).1 hr,Zhy b r M (h b hb).2 hl⟩
theorem Fit.insert(h:Fit M B){v:List Nat}(hv:smalls v)(hl:v.length≤M):Fit M (ZaH B v):=by
 obtain⟨h1,h2⟩:=Zao h hv hl
 unfold ZaH
 split
 ·exact h
 ·intro x hx
  rcases Ztk.1 hx with e|hx
  ·rw[e];exact⟨h1,h2⟩
  ·exact h.map h1 h2 x hx
theorem Zi9(B:List (List Nat))(v:List Nat):(ZaH B v).length≤B.length+1:=by
 unfold ZaH
 split
 ·omega
 ·rw[ZdU _ _ _ (Zmb _ _),List.length_map];exact Nat.le_refl _
theorem ZyK(h:Fit M B){r:List Nat}(hr:smalls r)(h0:val r≠0):(B.map fun b=>ZcX b r).map val=(B.map val).map (Ech.upd (val r)):=by
 rw[List.map_map,List.map_map]
 apply List.map_congr_left
 intro b hb
 show val (ZcX b r)=Ech.upd (val r) (val b)
 rw[Zi2 (h b hb).1 hr]
 unfold Ech.upd
 by_cases hbit:(val b).testBit (Ech.low (val r))=true
 ·rw[if_pos ⟨h0,hbit⟩,if_pos hbit]
 ·rw[if_neg (fun k=>hbit k.2),if_neg hbit]
theorem ZpL(h:Fit M B){v:List Nat}(hv:smalls v)(hl:v.length≤M):(ZaH B v).map val=Ech.ins (B.map val) (val v):=by
 obtain⟨h1,h2⟩:=Zao h hv hl
 unfold ZaH Ech.ins
 rw[←Zbz h hv]
 by_cases h0:val (reduceL B v)=0
 ·rw[if_pos ((ZbM h1).2 h0),if_pos h0]
 ·rw[if_neg (fun k=>h0 ((ZbM h1).1 k)),if_neg h0,ZqG h1 h0 (h.map h1 h2),ZyK h h1 h0]
theorem Ziq(f:Int):∀{B C:List (List Nat)},B.map firstI=C.map firstI→idxL f B=idxL f C
 |[],[],_=>rfl
 |[],c::C,h=>by simp at h
 |b::B,[],h=>by simp at h
 |b::B,c::C,h=>by
  simp only[List.map_cons,List.cons.injEq]at h
  simp only[idxL,h.1,Ziq f h.2]
theorem Zy3(h:Fit M B)(hR:Ech.Red (B.map val)){v:List Nat}(hv:smalls v)(hl:v.length≤M):Zrm B v=ZaH B v:=by
 obtain⟨h1,h2⟩:=Zao h hv hl
 unfold Zrm ZaH
 by_cases h0:firstI (reduceL B v)<0
 ·rw[if_pos h0,if_pos h0]
 ·rw[if_neg h0,if_neg h0]
  have h0':val (reduceL B v)≠0:=fun k=>h0 ((ZbM h1).2 k)
  rw[Ziq (B:=B) (C:=B.map fun b=>ZcX b (reduceL B v))]
  rw[List.map_map]
  apply List.map_congr_left
  intro b hb
  show firstI b=firstI (ZcX b (reduceL B v))
  have hu:=Ech.upd_low hR (v:=val v) (b:=val b) (by rw[←Zbz h hv];exact h0') (List.mem_map.2 ⟨b,hb,rfl⟩)
  have he:val (ZcX b (reduceL B v))=Ech.upd (Ech.red (B.map val) (val v)) (val b):=by
   rw[←Zbz h hv,Zi2 (h b hb).1 h1]
   unfold Ech.upd
   by_cases hbit:(val b).testBit (Ech.low (val (reduceL B v)))=true
   ·rw[if_pos ⟨h0',hbit⟩,if_pos hbit]
   ·rw[if_neg (fun k=>hbit k.2),if_neg hbit]
  rw[Zbx (h b hb).1,Zbx (Zd3 (h b hb).1 h1),he,if_neg hu.2,hu.1,if_neg (hR.1 _ (List.mem_map.2 ⟨b,hb,rfl⟩))]
def ZaQ(l:List (List Nat)):List (List Nat):=l.foldl ZaH []
theorem Zes:∀(l B:List (List Nat)),Fit M l→Fit M B→Ech.Red (B.map val)→Fit M (l.foldl ZaH B)∧(l.foldl ZaH B).map val=(l.map val).foldl Ech.ins (B.map val)∧l.foldl Zrm B=l.foldl ZaH B∧(l.foldl ZaH B).length≤B.length+l.length
 |[],B,_,hB,_=>⟨hB,rfl,rfl,by simp⟩
 |v::l,B,hl,hB,hR=>by
  have hv:=hl v List.mem_cons_self
  have hi:=ZpL hB hv.1 hv.2
  obtain⟨h1,h2,h3,h4⟩:=Zes l (ZaH B v) hl.tail (hB.insert hv.1 hv.2) (by rw[hi];exact hR.ins _)
  refine⟨h1,?_,?_,?_⟩
  ·show(l.foldl ZaH (ZaH B v)).map val=_
   rw[h2,hi];rfl
  ·show l.foldl Zrm (Zrm B v)=l.foldl ZaH (ZaH B v)
   rw[Zy3 hB hR hv.1 hv.2,h3]
  ·show(l.foldl ZaH (ZaH B v)).length≤_
   have:=Zi9 B v
   simp only[List.length_cons]
   omega
theorem Zki(h:Fit M l):Fit M (ZaQ l):=(Zes l [] h (.nil M) .nil).1
theorem ZdD(h:Fit M l):(ZaQ l).map val=Ech.basis (l.map val):=(Zes l [] h (.nil M) .nil).2.1
theorem Zr7(h:Fit M l):Ech.Red ((ZaQ l).map val):=by rw[ZdD h];exact Ech.red_basis _
theorem Fit.take(h:Fit M B)(k:Nat):Fit M (B.take k):=fun b hb=>h b (List.mem_of_mem_take hb)
theorem Zom(h:k<l.length):ZaQ (l.take (k+1))=ZaH (ZaQ (l.take k)) (l.getD k []):=by
 unfold ZaQ
 rw[List.take_succ_eq_append_getElem h,List.foldl_append]
 simp[List.getD_eq_getElem?_getD,List.getElem?_eq_getElem h]
theorem Fit.getD(h:Fit M B)(i:Nat):smalls (B.getD i [])∧(B.getD i []).length≤M:=by
 rw[List.getD_eq_getElem?_getD]
 cases hx:B[i]? with
 |none=>exact⟨smalls.nil,Nat.zero_le _⟩
 |some x=>exact h x (List.mem_of_getElem? hx)
end Go.Proofs.YtlhhinlghhjghaaGreatDoor
namespace Go.Proofs.YtlhhinlghhjghaaGreatDoor
open Go.RowKit
set_option linter.unusedVariables false
set_option linter.unusedSimpArgs false
set_option maxRecDepth 4000
theorem ZeY:Tryz.prog.underlying 32=some (.slice (Tryz.prog.elem 32)):=by kernel_rfl
theorem Zim:Tryz.prog.elem 32=69:=by kernel_rfl
theorem Zle(a:Option Addr)(n c q:Nat)(hc:q≤c)(w:World):
  (Instr.sliceAt 32 (.slice a n c) none (some (.int .i64 (q:Int))) none).run Tryz.prog w=.ok (.slice a q c) w:=by
 have hz:∀w:World,(sizeOf 69).run Tryz.prog w=.ok 1 w:=fun w=>by kernel_rfl
 rw[run_sliceAt_slice _ _ _ _ _ _ ZeY,run_slice_h _ _ _ _ _ ZeY _ _ (by omega) (by omega),Zim,hz]
 cases a<;>simp[Result.andThen,sliced,Addr.add]
theorem RowAt.take{w:World}{a:Option Addr}{n:Nat}{xs:List Nat}(h:RowAt w a n xs){k:Nat}(hk:k≤n):RowAt w a k (xs.take k):=by
 refine⟨by rw[List.length_take,h.1];omega,fun x hx=>h.2.1 x (List.mem_of_mem_take hx),?_⟩
 rcases h.2.2 with h0|⟨b,off,rfl,hc⟩
 ·left;omega
 ·refine .inr ⟨b,off,rfl,fun i hi=>?_⟩
  rw[hc i (by omega),List.getD_eq_getElem?_getD,List.getD_eq_getElem?_getD,List.getElem?_take_of_lt hi]
end Go.Proofs.YtlhhinlghhjghaaGreatDoor
