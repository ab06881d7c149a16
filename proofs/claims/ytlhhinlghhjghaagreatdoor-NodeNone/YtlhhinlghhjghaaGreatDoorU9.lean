/-
  What the rows' frames of the node share: the two tables as the rows list them, a config that came in by value. No condition.
  Communication of one goroutine inside the walk: 'WpN', as the walk's own 'Code.wp', of frames of ordinary calls alone; a select of one case with a default as the first operation of a region. No condition.
  Memory of which only some blocks have turned ('Tu'). No condition.
  Plain mathematics of a basis of rows of bits, the rows being numbers: what is left of a row, one more row, the span, and that a basis whose lowest bits rise and stand in no other row is one. Of no program, no condition.
-/
import Derived.Test.YtlhhinlghhjghaaGreatDoorU8
import Derived.Laws.Cover2
import Derived.Test.YtlhhinlghhjghaaGreatDoorChecked
import Derived.Conc.LoneSelect
import Derived.Test.YtlhhinlghhjghaaGreatDoorU2
import Derived.Test.YtlhhinlghhjghaaGreatDoorU0
namespace Go.Proofs.YtlhhinlghhjghaaGreatDoor
open Go.ChangeShapes Go.WideShapes Go.ChangeAt Go.RowKit
set_option linter.unusedVariables false
set_option linter.unusedSimpArgs false
set_option maxRecDepth 4000
variable {fuel:Nat}{H:Type}{v:Value}{W:World}
theorem gPl : Tryz.prog.globalNamed "bucketline/soliton.plain" = some 1 := by kernel_rfl
theorem ZzV:(Tryz.prog.globals[1]?).map (·.type)=some 380:=by kernel_rfl
theorem ZzU:Tryz.prog.cellsOf 380=127:=by kernel_rfl
theorem ZyU:Tryz.prog.cellsOf 95=1:=by kernel_rfl
def plainL:List Int:=[524288,174762,87381,52428,34952,24966,18724,14563,11650,9532,7943,6721,5761,4993,4369,3855,3426,3066,2759,2496,2269,2072,1899,1747,1613,1493,1387,1291,1205,1127,1057,992,934,881,832,787,745,707,672,639,608,580,554,529,506,485,464,445,427,411,395,380,366,353,340,328,317,306,296,286,277,268,260,252,244,237,230,223,217,210,205,199,194,188,183,179,174,170,165,161,157,154,150,146,143,140,136,133,130,128,125,122,119,117,114,112,110,108,105,103,101,99,97,96,94,92,90,89,87,85,84,82,81,79,78,77,75,74,73,72,71,69,68,67,66,65,64]
theorem Zp2:plainL.length=127:=by decide+kernel
theorem Zpe(i:Nat)(hi:i<127):plainL.getD i 0=((1048576/((i+2)*(i+1)):Nat):Int):=by
 have h:∀j:Fin 127,plainL.getD j.val 0=((1048576/((j.val+2)*(j.val+1)):Nat):Int):=by decide+kernel
 exact h ⟨i,hi⟩
theorem ZrD{P:Program}{w:World}{x:String×DataW Unit}{r:List (String×DataW Unit)}(h:laidMet P (x::r) w):laidMet P r w:=by
 obtain⟨ps,⟨g,t,cs,fuel,p,q,_,_,_,_,hq,rfl⟩,hnd,hrows⟩:=h
 exact⟨q,hq,(List.nodup_append.1 hnd).2.1,fun b off hp=>hrows b off (List.mem_append_right _ hp)⟩
set_option maxRecDepth 100000 in
theorem ZAz {W : World} (h : laidMetH Tryz.prog Rows.nodeCrashRow.laid W) : Lib.TabIs Tryz.prog W "bucketline/soliton.plain" .u32 plainL :=
 Lib.tabIs_of_head (rest:=[]) gPl ZzV Tryz.underlying380 Tryz.underlying95 ZyU ZzU (ZrD h)
structure Tabs(w:World):Prop where
 tab:Tab w
 pl:PTab w
theorem Tabs.below{w w':World}(h:Tabs w)(hb:Below w.heap.size w w'):Tabs w':=⟨h.tab.below hb,h.pl.below hb⟩
theorem Zyt(h:laidMetH Tryz.prog Rows.nodeCrashRow.laid W):Tabs W:=
 ⟨ZAG h,fun i hi=>by rw[(ZAz h).cell gPl i (by rw[Zp2];exact hi),Zpe i hi]⟩
theorem Zu7{b:Nat}(h:(Lit.float .f64 b).wf=true):b<18446744073709551616:=by simpa [Lit.wf]using h
theorem ZpR{enc:TypeId×Value→H}{x:DataW H×List MemPlace}
  (h:DataW.trod enc Tryz.prog W 0 (fun _=>true) true fuel 23 [v]=some x):∃b,v=.float .f64 b∧b<18446744073709551616:=by
 cases fuel with
 |zero=>simp[DataW.trod]at h
 |succ fuel=>
  cases v<;>simp[DataW.trod,Tryz.underlying23]at h
  obtain⟨⟨rfl,h⟩,_⟩:=h
  exact⟨_,rfl,Zu7 h⟩
theorem ZoK{enc:TypeId×Value→H}{x:DataW H×List MemPlace}
  (h:DataW.trod enc Tryz.prog W 0 (fun _=>true) true fuel 83 [v]=some x):∃a len cap xs,v=.slice a len cap∧IntzAt W a len xs∧len≤9223372036854775807∧(a=none→len=0∧cap=0):=by
 rcases open_ints Tryz.underlying83 Tryz.underlying3 (by kernel_rfl) h with⟨hcs,_⟩|⟨x,l,c,zs,hcs,_,hl,hm,hz,_,hcell,hwz⟩
 ·simp only[List.cons.injEq,and_true]at hcs
  exact⟨_,_,_,[],hcs,⟨rfl,.inl rfl⟩,by decide,fun _=>⟨rfl,rfl⟩⟩
 ·simp only[List.cons.injEq,and_true]at hcs
  have hzl:zs.length=c:=by simpa using hz
  refine⟨_,_,_,zs.take l,hcs,⟨by simp;omega,?_⟩,Nat.le_trans hl (Zmr hm),fun e=>by cases e⟩
  by_cases h0:l=0
  ·exact .inl h0
  ·obtain⟨b,off,spot⟩:=x
   have hc:=hcell 0 (by omega)
   have hspot:spot=none:=by simpa [Addr.add]using World.cell?_spot hc
   subst hspot
   refine .inr ⟨b,off,rfl,fun i hi=>?_⟩
   have hci:=hcell i (by omega)
   rw[Ze9]at hci
   rw[hci]
   simp[List.getD_eq_getElem?_getD,hi]
theorem ZyO:Tryz.prog.cellsOf 85=2:=by kernel_rfl
theorem Zz1:Tryz.prog.cellsOf 25=10:=by kernel_rfl
theorem ZuX{enc:TypeId×Value→H}{cs:List Value}{x:DataW H×List MemPlace}(hl2:cs.length=2)
  (h:DataW.trod enc Tryz.prog W 0 (fun _=>true) true fuel 85 cs=some x):∃d:NDV,cs=[.int .i64 d.kd,.slice d.a d.n d.c]∧IntzAt W d.a d.n d.tos∧d.n≤9223372036854775807∧(d.a=none→d.n=0∧d.c=0):=by
 match cs,hl2 with
 |[c0,c1],_=>
  obtain⟨ys,n,_,_,_,hlen,hf⟩:=DataW.trod_struct Tryz.underlying85 h
  have hl:ys.length=2:=hlen
  obtain⟨y0,e0⟩:=Zb5 (l:=ys) (i:=0) (by omega)
  obtain⟨y1,e1⟩:=Zb5 (l:=ys) (i:=1) (by omega)
  obtain⟨kd,rfl⟩:=ZcI ((hf 0 _ rfl).trans e0)
  obtain⟨a,len,cap,xs,rfl,h1,h2,h3⟩:=ZoK ((hf 1 _ rfl).trans e1)
  exact⟨⟨kd,a,len,cap,xs⟩,rfl,h1,h2,h3⟩
theorem ZnL(Q:Nat→NDV→Prop):∀n,(∀i,i<n→∃r,Q i r)→∃rs:List NDV,rs.length=n∧∀i,i<n→Q i (rs.getD i .dflt)
 |0,_=>⟨[],rfl,fun i hi=>by omega⟩
 |n+1,h=>by
  obtain⟨rs,hl,hr⟩:=ZnL Q n (fun i hi=>h i (by omega))
  obtain⟨r,hp⟩:=h n (by omega)
  refine⟨rs++[r],by simp[hl],fun i hi=>?_⟩
  by_cases e:i<n
  ·have:=hr i e
   rwa[show(rs++[r]).getD i .dflt=rs.getD i .dflt from by simp[List.getD_eq_getElem?_getD,List.getElem?_append_left (show i<rs.length by omega)]]
  ·obtain rfl:i=n:=by omega
   rwa[show(rs++[r]).getD i .dflt=r from by simp[List.getD_eq_getElem?_getD,←hl]]
structure CfIn(w:World)(f:CFV):Prop where
 nds:NdsAt w f.a f.n f.ds
 len:f.n≤9223372036854775807
 obj:f.obj.size≤9223372036854775807
 rate:f.rate<18446744073709551616
 tos:∀i,i<f.n→(f.ds.getD i .dflt).n≤9223372036854775807∧((f.ds.getD i .dflt).a=none→(f.ds.getD i .dflt).n=0∧(f.ds.getD i .dflt).c=0)
theorem Zue{enc:TypeId×Value→H}{y:DataW H×List MemPlace}
  (hf:DataW.trod enc Tryz.prog W 0 (fun _=>true) true fuel 22 [v]=some y):∃a len cap qs,v=.slice a len cap∧NdsAt W a len qs∧len≤9223372036854775807∧∀i,i<len→(qs.getD i .dflt).n≤9223372036854775807∧((qs.getD i .dflt).a=none→(qs.getD i .dflt).n=0∧(qs.getD i .dflt).c=0):=by
 rcases Go.Deep.open_slice Tryz.underlying22 hf with⟨hcs,_⟩|⟨x,l,c,m,n,D,Pl,hcs,_,hl,hm,hmm,_,hx⟩
 ·simp only[List.cons.injEq,and_true]at hcs
  exact⟨_,_,_,[],hcs,⟨rfl,fun i hi=>by omega,.inl rfl⟩,by decide,fun i hi=>by omega⟩
 ·simp only[List.cons.injEq,and_true]at hcs
  have hmc:m=c:=by simpa using hmm
  have hcap:=Zmr hm
  obtain⟨qs,hql,hq⟩:=ZnL (fun i d=>(∀j u,[(.int .i64 d.kd:Value),.slice d.a d.n d.c][j]? =some u→W.cell? ((x.add (i*2)).add j)=some u)∧IntzAt W d.a d.n d.tos∧d.n≤9223372036854775807∧(d.a=none→d.n=0∧d.c=0)) l (fun i hi=>by
   obtain⟨cs',h1,h2⟩:=hx i (by omega)
   rw[ZyO]at h1
   obtain⟨_,hlen,hcell⟩:=World.cells?_some h1
   obtain⟨p,rfl,hr⟩:=ZuX hlen h2
   exact⟨p,fun j u hj=>(hcell j (by have:=(List.getElem?_eq_some_iff.1 hj).1;simpa using this)).trans hj,hr⟩)
  refine⟨_,_,_,qs,hcs,⟨hql,fun i hi=>(hq i hi).2.1,?_⟩,by omega,fun i hi=>(hq i hi).2.2⟩
  by_cases h0:l=0
  ·exact .inl h0
  ·obtain⟨b,off,spot⟩:=x
   have hc:=(hq 0 (by omega)).1 0 _ rfl
   have hspot:spot=none:=by simpa [Addr.add]using World.cell?_spot hc
   subst hspot
   refine .inr ⟨b,off,rfl,fun i hi=>?_⟩
   have hc:=(hq i hi).1
   refine⟨?_,?_⟩
   ·have:=hc 0 _ rfl;rwa[Ze9,Ze9]at this
   ·have:=hc 1 _ rfl;rwa[Ze9,Ze9]at this
theorem ZBf{enc:TypeId×Value→H}{base:Nat}{d:DataW H}{ps:List MemPlace}(hv:Value.okWide Tryz.prog W .any base 25 v)
  (h:DataW.Trod enc Tryz.prog W 0 (fun _=>true) true 25 v d ps):∃f:CFV,v=f.val∧CfIn W f:=by
 obtain⟨cs,rfl,hsz⟩:=okWide_struct Tryz.underlying25 hv
 obtain⟨fuel,hf⟩:=h
 obtain⟨cs⟩:=cs
 match cs,hsz.trans Zz1 with
 |[c0,c1,c2,c3,c4,c5,c6,c7,c8,c9],_=>
  obtain⟨ys,n,_,_,_,hlen,hf⟩:=DataW.trod_struct Tryz.underlying25 hf
  have hl:ys.length=10:=hlen
  obtain⟨y0,e0⟩:=Zb5 (l:=ys) (i:=0) (by omega)
  obtain⟨y1,e1⟩:=Zb5 (l:=ys) (i:=1) (by omega)
  obtain⟨y2,e2⟩:=Zb5 (l:=ys) (i:=2) (by omega)
  obtain⟨y3,e3⟩:=Zb5 (l:=ys) (i:=3) (by omega)
  obtain⟨y4,e4⟩:=Zb5 (l:=ys) (i:=4) (by omega)
  obtain⟨y5,e5⟩:=Zb5 (l:=ys) (i:=5) (by omega)
  obtain⟨y6,e6⟩:=Zb5 (l:=ys) (i:=6) (by omega)
  obtain⟨y7,e7⟩:=Zb5 (l:=ys) (i:=7) (by omega)
  obtain⟨y8,e8⟩:=Zb5 (l:=ys) (i:=8) (by omega)
  obtain⟨y9,e9⟩:=Zb5 (l:=ys) (i:=9) (by omega)
  obtain⟨a,len,cap,qs,rfl,g1,g2,g3⟩:=Zue ((hf 0 _ rfl).trans e0)
  obtain⟨s,rfl,gs⟩:=ZvY ((hf 1 _ rfl).trans e1)
  obtain⟨x2,rfl⟩:=ZcI ((hf 2 _ rfl).trans e2)
  obtain⟨x3,rfl⟩:=ZcI ((hf 3 _ rfl).trans e3)
  obtain⟨x4,rfl⟩:=ZcI ((hf 4 _ rfl).trans e4)
  obtain⟨x5,rfl⟩:=ZcI ((hf 5 _ rfl).trans e5)
  obtain⟨x6,rfl⟩:=ZcI ((hf 6 _ rfl).trans e6)
  obtain⟨x7,rfl,gr⟩:=ZpR ((hf 7 _ rfl).trans e7)
  obtain⟨x8,rfl⟩:=ZcI ((hf 8 _ rfl).trans e8)
  obtain⟨x9,rfl⟩:=ZcI ((hf 9 _ rfl).trans e9)
  exact⟨⟨a,len,cap,qs,s,x2,x3,x4,x5,x6,x7,x8,x9⟩,rfl,⟨g1,g2,gs,gr,g3⟩⟩
end Go.Proofs.YtlhhinlghhjghaaGreatDoor
namespace Go.Proofs.YtlhhinlghhjghaaGreatDoor
open Go.RowKit Go.Conc
set_option linter.unusedVariables false
set_option linter.unusedSimpArgs false
set_option maxRecDepth 4000
def WpN(P:Program)(c:Code)(Q:Exit→Act→World→Prop)(a:Act)(w:World):Prop:=
 ∀(b:Frame) (k:List Item) (cs:List Frame),b.kind≠ .early→∃e a' w',Q e a' w'∧Arrives P (lone (b.at a (.code c::k)) cs w) b k cs e a' w'
section
variable {P:Program} {Q:Exit→Act→World→Prop} {a:Act} {w:World}
theorem Zna{c:Code}(h:c.wp P Q a w):WpN P c Q a w:=fun b k cs _=>h b k cs
theorem Zi6{x y:Code}(h:WpN P x (Exit.then (WpN P y Q) Q) a w):WpN P (.seq x y) Q a w:=by
 intro b k cs hb
 obtain⟨e,a1,w1,hq,hr⟩:=h b (.code y::k) cs hb
 by_cases he:e=.normal
 ·subst he
  obtain⟨e2,a2,w2,hq2,hr2⟩:=hq b k cs hb
  exact⟨e2,a2,w2,hq2,Arrives.of_steps (Steps.head step_seq hr) hr2⟩
 ·have hs:=Arrives.of_steps (Steps.one (step_seq (P:=P) (b:=b) (a:=a) (k:=k) (cs:=cs) (w:=w) (x:=x) (y:=y))) (Arrives.pass (x:=.code y) rfl (fun _ _=>.inl he) hr)
  refine⟨e,a1,w1,?_,hs⟩
  cases e<;>first|exact absurd rfl he|exact hq
theorem ZbG{x y:Code}(h:∀K:Act→World→Prop,(∀a w,WpN P y Q a w→K a w)→x.wp P (Exit.then K Q) a w):WpN P (.seq x y) Q a w:=
 Zi6 (Zna (h _ fun _ _ h=>h))
theorem ZdF{f:FuncId}{fn:Func}{c:Code}{args:Array Value}{R:Ending→World→Prop}
  (hf:P.funcs[f]? =some fn) (hb:fn.body=some c) (hno:∀w',¬R .outgrown w')
  (h:WpN P c (bodyPost P fn R) {tmps:=args++Array.replicate (fn.ntmps-args.size) undef,defers:=[]} w):Calls P f args w R:=by
 refine calls_of_loneTo (fun cs=>?_) hno
 have hen:Frame.enter P f args .normal=(base f).at {tmps:=args++Array.replicate (fn.ntmps-args.size) undef,defers:=[]} [.code c]:=by
  simp[Frame.enter,Frame.at,hf,hb,base]
 rw[hen]
 obtain⟨e,a',w',hq,hr⟩:=h (base f) [] cs (by simp[base])
 match e,hq,hr with
 | .normal,⟨hd,v,hv,hR⟩,hr=>exact⟨_,w',hr.trans (.one step_end),.returned v,_,rfl,hR,rfl,rfl,hd,rfl,fn,hf,hv⟩
 | .ret,⟨hd,v,hv,hR⟩,⟨_,hr⟩=>exact⟨_,w',hr,.returned v,_,rfl,hR,rfl,rfl,hd,rfl,fn,hf,hv⟩
 | .panic chain,⟨hd,hR⟩,⟨_,hr⟩=>exact⟨_,w',hr,.panicked chain,_,rfl,hR,rfl,rfl,hd,fn,hf⟩
 | .exit _,hq,_=>exact hq.elim
 | .goto _,hq,_=>exact hq.elim
 | .outgrown,hq,_=>exact absurd hq (hno _)
def Does(P:Program)(o:Oper)(a:Act)(w:World)(v:Value)(w':World):Prop:=
 ∀(b:Frame) (ops:Array Oper) (i:Nat) (rest:List Nat) (k:List Item) (cs:List Frame),b.kind≠ .early→ops[i]? =some o→Region.wanted o (yielded ops a.tmps)=true→
  step P (lone (b.at a (.inRegion ops (i::rest)::k)) cs w)=.next (lone (b.at (a.put o.dst v) (.inRegion ops rest::k)) cs w')
theorem ZhK{id:Nat}{o:Oper}{l:List Oper}{v:Value}{w':World}(hg:o.guard=none)(hd:Does P o a w v w')
  (h:wpList P (o::l).toArray Q l (a.put o.dst v) w'):WpN P (.region id (o::l).toArray false) Q a w:=by
 intro b k cs hb
 have hw:Region.wanted o (yielded (o::l).toArray a.tmps)=true:=by simp[Region.wanted,hg]
 have h1:=hd b (o::l).toArray 0 (List.range' 1 l.length) k cs hb (by simp) hw
 have h2:=wpOps_eq_wpList (P:=P) (ops:=(o::l).toArray) (Q:=Q) l 1 (fun j=>by simp[Nat.add_comm 1 j])
 rw[←h2]at h
 obtain⟨e,a₁,w₁,hq,harr⟩:=wp_ops _ _ _ h b k cs
 have h3:=step_region (P:=P) (b:=b) (a:=a) (k:=k) (cs:=cs) (w:=w) (ops:=(o::l).toArray) (id:=id)
 have h4:List.range (o::l).toArray.size=0::List.range' 1 l.length:=by
  rw[List.size_toArray,List.length_cons,List.range_eq_range',List.range'_succ]
 rw[h4]at h3
 exact⟨e,a₁,w₁,hq,.of_steps (.head h3 (.one h1)) harr⟩
section
variable {o:Oper} {c cap s r:Nat} {buf:Array Value} {z v:Value} {tm:Bool}
theorem ZhW(hr:(execOp a.eval o).run P w=.ok (.comm #[scase c v z] false .select) w)(hc:w.heap[c]? =some (.chan cap buf false s r tm))(hroom:buf.size<cap):
  Does P o a w (.tuple #[goInt 0,.bool false]) (w.setChan c cap (buf.push v) false (s+1) r tm):=by
 intro b ops i rest k cs hb ho hw
 rw[lone_eq_solo,step_lone_select_send_room (stepG_comm ho hw hb hr) hc hroom,Frame.finish_at,ho]
 rfl
theorem ZhV(hr:(execOp a.eval o).run P w=.ok (.comm #[scase c v z] false .select) w)(hc:w.heap[c]? =some (.chan cap buf false s r tm))(hfull:cap≤buf.size):
  Does P o a w (.tuple #[goInt (-1),.bool false]) w:=by
 intro b ops i rest k cs hb ho hw
 rw[lone_eq_solo,step_lone_select_send_full (stepG_comm ho hw hb hr) hc hfull,Frame.finish_at,ho]
 rfl
theorem ZhU(hr:(execOp a.eval o).run P w=.ok (.comm #[rcase c z] false .select) w)(hc:w.heap[c]? =some (.chan cap buf false s r tm))(hsome:0<buf.size):
  Does P o a w (.tuple #[goInt 0,.bool true,buf.getD 0 undef]) (w.setChan c cap (buf.extract 1 buf.size) false s (r+1) tm):=by
 intro b ops i rest k cs hb ho hw
 rw[lone_eq_solo,step_lone_select_recv_buf (stepG_comm ho hw hb hr) hc hsome,Frame.finish_at,ho]
 rfl
end
end
end Go.Proofs.YtlhhinlghhjghaaGreatDoor
namespace Go.Proofs.YtlhhinlghhjghaaGreatDoor
open Go.RowKit
set_option linter.unusedVariables false
set_option linter.unusedSimpArgs false
set_option maxRecDepth 4000
variable {F:Nat→Prop}{w w1 w2 w':World}
structure Tu(F:Nat→Prop)(w w':World):Prop where
 os:w'.os=w.os
 tape:w'.tape=w.tape
 output:w'.output=w.output
 size:w.heap.size≤w'.heap.size
 block:∀k,k<w.heap.size→¬F k→w'.heap[k]? =w.heap[k]?
theorem Tu.refl(F:Nat→Prop)(w:World):Tu F w w:=⟨rfl,rfl,rfl,Nat.le_refl _,fun _ _ _=>rfl⟩
theorem Tu.trans{G:Nat→Prop}(h:Tu F w w1)(k:Tu G w1 w2)(hr:∀j,j<w.heap.size→G j→F j):Tu F w w2:=
 ⟨k.os.trans h.os,k.tape.trans h.tape,k.output.trans h.output,Nat.le_trans h.size k.size,fun j hj hn=>(k.block j (Nat.lt_of_lt_of_le hj h.size) fun hg=>hn (hr j hj hg)).trans (h.block j hj hn)⟩
theorem Tu.of_below(h:Below w.heap.size w w'):Tu F w w':=⟨h.os,h.tape,h.output,h.size,fun j hj _=>h.block j hj⟩
theorem Tu.of_gb{r:Option Nat}(h:w.grownBy w' r)(hr:∀j,j<w.heap.size→r=some j→F j):Tu F w w':=
 ⟨h.os,h.tape,h.output,h.size,fun j hj hn=>h.block j hj fun e=>hn (hr j hj e.symm)⟩
theorem Tu.below(h:Tu F w w'){B:Nat}(hB:B≤w.heap.size)(hF:∀j,j<B→¬F j):Below B w w':=
 ⟨h.os,h.tape,h.output,h.size,fun j hj=>h.block j (Nat.lt_of_lt_of_le hj hB) (hF j hj)⟩
theorem Tu.then(h:Tu F w w1)(k:Below w1.heap.size w1 w2):Tu F w w2:=h.trans (Tu.of_below (F:=F) k) fun _ _ h=>h
theorem Tu.after(h:Below w.heap.size w w1)(k:Tu F w1 w2):Tu F w w2:=(Tu.of_below (F:=F) h).trans k fun _ _ h=>h
theorem Own.blkU{B g:Nat}{v:Value}{xs:List Nat}(h:Own w B v xs)(hk:v.ownBlock=some g):∃cur,w.heap[g]? =some (.cells cur 69 (0,0)):=by
 rcases h.2.2 with⟨rfl,_⟩|⟨g',cap,cur,rfl,_,hg,_⟩
 ·cases hk
 ·simp only[Value.ownBlock,Option.some.injEq]at hk
  exact⟨cur,hk▸hg⟩
theorem Own.tu{B:Nat}{v:Value}{xs:List Nat}(h:Own w B v xs)(ht:Tu F w w')(hF:∀j,v.ownBlock=some j→¬F j):Own w' B v xs:=by
 refine⟨h.1,h.2.1,?_⟩
 rcases h.2.2 with h0|⟨g,cap,cur,h1,hg,hgg,r⟩
 ·exact .inl h0
 ·exact .inr ⟨g,cap,cur,h1,hg,(ht.block g (Array.getElem?_eq_some_iff.1 hgg).1 (hF g (by rw[h1];rfl))).trans hgg,r⟩
theorem Ze2{q:Nat}(h:Below w.heap.size w w1)(ht:Tu (fun j=>j=q) w1 w2)(hq:w.heap.size≤q):Below w.heap.size w w2:=
 h.trans (ht.below h.size fun j hj e=>by omega)
end Go.Proofs.YtlhhinlghhjghaaGreatDoor
namespace Go.Proofs.YtlhhinlghhjghaaGreatDoor.Ech
variable {B A:List Nat}{x i b r:Nat}
def lowF:Nat→Nat→Nat
 |0,_=>0
 |f+1,x=>if x%2=1 then 0 else lowF f (x/2)+1
def low(x:Nat):Nat:=lowF x x
theorem Zhz:∀f x,x≠0→x≤f→x.testBit (lowF f x)=true∧∀j,j<lowF f x→x.testBit j=false
 |0,x,h,hf=>absurd (Nat.le_zero.1 hf) h
 |f+1,x,h,hf=>by
  unfold lowF
  by_cases e:x%2=1
  ·rw[if_pos e]
   exact⟨by rw[Nat.testBit_zero];simpa using e,fun j hj=>by omega⟩
  ·rw[if_neg e]
   obtain⟨h1,h2⟩:=Zhz f (x/2) (by omega) (by omega)
   refine⟨by rw[Nat.testBit_succ];exact h1,fun j hj=>?_⟩
   cases j with
   |zero=>rw[Nat.testBit_zero];simpa using e
   |succ j=>rw[Nat.testBit_succ];exact h2 j (by omega)
theorem low_bit(h:x≠0):x.testBit (low x)=true:=(Zhz x x h (Nat.le_refl _)).1
theorem low_none{j:Nat}(h:x≠0)(hj:j<low x):x.testBit j=false:=(Zhz x x h (Nat.le_refl _)).2 j hj
theorem ne_of_bit(h:x.testBit i=true):x≠0:=by
 rintro rfl
 simp at h
theorem low_unique(h:x.testBit i=true)(h2:∀j,j<i→x.testBit j=false):low x=i:=by
 have h0:=ne_of_bit h
 rcases Nat.lt_trichotomy (low x) i with h1|h1|h1
 ·have:=h2 _ h1;rw[low_bit h0]at this;cases this
 ·exact h1
 ·have:=low_none h0 h1;rw[h]at this;cases this
theorem ZxW(h:x.testBit i=true):low x≤i:=by
 rcases Nat.lt_or_ge i (low x)with h1|h1
 ·have:=low_none (ne_of_bit h) h1;rw[h]at this;cases this
 ·exact h1
theorem Zir(b p q:Nat):(b^^^p)^^^(b^^^q)=p^^^q:=by
 apply Nat.eq_of_testBit_eq
 intro i
 simp only[Nat.testBit_xor]
 cases b.testBit i<;>cases p.testBit i<;>cases q.testBit i<;>rfl
theorem ZmV(b p q:Nat):(b^^^p)^^^q=b^^^(p^^^q):=Nat.xor_assoc b p q
theorem Zmf(b p q:Nat):p^^^(b^^^q)=b^^^(p^^^q):=by
 apply Nat.eq_of_testBit_eq
 intro i
 simp only[Nat.testBit_xor]
 cases b.testBit i<;>cases p.testBit i<;>cases q.testBit i<;>rfl
theorem eq_of_xor{a:Nat}(h:a^^^b=0):a=b:=by
 apply Nat.eq_of_testBit_eq
 intro i
 have:=congrArg (fun x=>x.testBit i) h
 simp only[Nat.testBit_xor,Nat.zero_testBit]at this
 revert this
 cases a.testBit i<;>cases b.testBit i<;>simp
theorem Zvw(a b:Nat):(a^^^b)^^^b=a:=by rw[Nat.xor_assoc,Nat.xor_self,Nat.xor_zero]
def red(B:List Nat)(v:Nat):Nat:=B.foldl (fun r b=>if b≠0∧r.testBit (low b)=true then r^^^b else r) v
def comb:List Nat→Nat→Nat
 |[],_=>0
 |b::B,x=>if x.testBit (low b)=true then b^^^comb B x else comb B x
def Red(B:List Nat):Prop:=(∀b∈B,b≠0)∧B.Pairwise fun a b=>low a<low b∧a.testBit (low b)=false
def Sp(B:List Nat)(x:Nat):Prop:=∃l:List Nat,(∀b∈l,b∈B)∧l.foldr (fun b a=>b^^^a) 0=x
theorem Sp.zero:Sp B 0:=⟨[],(fun _ h=>by cases h),rfl⟩
theorem Sp.add(hb:b∈B)(h:Sp B x):Sp B (b^^^x):=by
 obtain⟨l,h1,rfl⟩:=h
 refine⟨b::l,fun c hc=>?_,rfl⟩
 rcases List.mem_cons.1 hc with e|hc
 ·rw[e];exact hb
 ·exact h1 c hc
theorem Sp.ind{P:Nat→Prop}(h0:P 0)(hs:∀b x,b∈B→P x→P (b^^^x)){x:Nat}(h:Sp B x):P x:=by
 obtain⟨l,h1,rfl⟩:=h
 induction l with
 |nil=>exact h0
 |cons b l ih=>exact hs b _ (h1 b List.mem_cons_self) (ih fun c hc=>h1 c (List.mem_cons_of_mem _ hc))
theorem Sp.of_mem(h:b∈B):Sp B b:=by
 have:=Sp.add h Sp.zero
 rwa[Nat.xor_zero]at this
theorem Sp.xor{y:Nat}(h:Sp B x)(k:Sp B y):Sp B (x^^^y):=by
 refine Sp.ind (P:=fun x=>Sp B (x^^^y)) (by rw[Nat.zero_xor];exact k) (fun b x hb ih=>?_) h
 rw[ZmV]
 exact .add hb ih
theorem Sp.of(h:∀a∈A,Sp B a)(k:Sp A x):Sp B x:=by
 exact Sp.ind (P:=fun x=>Sp B x) .zero (fun b x hb ih=>(h _ hb).xor ih) k
theorem Sp.mono(h:∀a∈A,a∈B)(k:Sp A x):Sp B x:=k.of fun a ha=>.of_mem (h a ha)
theorem ZnG(B:List Nat)(x y:Nat):comb B (x^^^y)=comb B x^^^comb B y:=by
 induction B with
 |nil=>simp[comb]
 |cons b B ih=>
  simp only[comb,Nat.testBit_xor,ih]
  cases x.testBit (low b)<;>cases y.testBit (low b)
  ·simp
  ·simp[Zmf]
  ·simp[ZmV]
  ·simp only[Bool.xor_self,if_true]
   rw[Zir]
   rfl
theorem Zfq(h:∀b∈B,x.testBit (low b)=false):comb B x=0:=by
 induction B with
 |nil=>rfl
 |cons b B ih=>
  simp only[comb]
  rw[h b List.mem_cons_self,if_neg (by decide)]
  exact ih fun b hb=>h b (List.mem_cons_of_mem _ hb)
theorem Zdh(h:∀b∈B,b.testBit i=false):(comb B x).testBit i=false:=by
 induction B with
 |nil=>simp[comb]
 |cons b B ih=>
  have h1:=h b List.mem_cons_self
  have h2:=ih fun b hb=>h b (List.mem_cons_of_mem _ hb)
  simp only[comb]
  split
  ·rw[Nat.testBit_xor,h1,h2];rfl
  ·exact h2
theorem ZlF(B:List Nat)(x:Nat):Sp B (comb B x):=by
 induction B with
 |nil=>exact .zero
 |cons b B ih=>
  have ih':Sp (b::B) (comb B x):=ih.mono fun a ha=>List.mem_cons_of_mem _ ha
  simp only[comb]
  split
  ·exact .add List.mem_cons_self ih'
  ·exact ih'
theorem Red.tail(h:Red (b::B)):Red B:=⟨fun a ha=>h.1 a (List.mem_cons_of_mem _ ha),(List.pairwise_cons.1 h.2).2⟩
theorem Red.head(h:Red (b::B)):∀a∈B,low b<low a∧b.testBit (low a)=false:=(List.pairwise_cons.1 h.2).1
theorem Red.low_lt(h:Red (b::B)){j:Nat}(hj:j≤low b):∀a∈B,a.testBit j=false:=fun a ha=>
 low_none (h.1 a (List.mem_cons_of_mem _ ha)) (Nat.lt_of_le_of_lt hj (h.head a ha).1)
theorem Red.nil:Red []:=⟨(fun _ h=>by cases h),List.Pairwise.nil⟩
theorem Red.two:∀{B:List Nat},Red B→∀{a c:Nat},a∈B→c∈B→a≠c→low a≠low c∧a.testBit (low c)=false
 |[],_,_,_,ha,_,_=>by cases ha
 |b::B,h,a,c,ha,hc,hne=>by
  rcases List.mem_cons.1 ha with ea|ha'
  ·rcases List.mem_cons.1 hc with ec|hc'
   ·exact absurd (ea.trans ec.symm) hne
   ·have:=h.head c hc'
    rw[ea]
    exact⟨by omega,this.2⟩
  ·rcases List.mem_cons.1 hc with ec|hc'
   ·have:=h.head a ha'
    rw[ec]
    exact⟨by omega,h.low_lt (Nat.le_refl _) a ha'⟩
   ·exact h.tail.two ha' hc' hne
theorem Znm:∀{B:List Nat},Red B→∀{b:Nat},b∈B→comb B b=b
 |[],_,_,hb=>by cases hb
 |c::B,h,b,hb=>by
  simp only[comb]
  rcases List.mem_cons.1 hb with e|hb'
  ·rw[e,if_pos (low_bit (h.1 c List.mem_cons_self)),Zfq (fun a ha=>(h.head a ha).2),Nat.xor_zero]
  ·rw[h.low_lt (Nat.le_refl _) b hb',if_neg (by decide)]
   exact Znm h.tail hb'
theorem ZlW(h:Red B){x:Nat}(k:Sp B x):comb B x=x:=by
 refine Sp.ind (P:=fun x=>comb B x=x) (Zfq fun b _=>Nat.zero_testBit _) (fun b x hb ih=>?_) k
 rw[ZnG,Znm h hb,ih]
theorem Zop:∀{B:List Nat},Red B→∀{b:Nat} (x:Nat),b∈B→(comb B x).testBit (low b)=x.testBit (low b)
 |[],_,_,_,hb=>by cases hb
 |c::B,h,b,x,hb=>by
  simp only[comb]
  rcases List.mem_cons.1 hb with e|hb'
  ·have h1:=Zdh (x:=x) (h.low_lt (Nat.le_refl (low c)))
   rw[e]
   split
   ·rename_i hx;rw[Nat.testBit_xor,h1,low_bit (h.1 c List.mem_cons_self),hx];rfl
   ·rename_i hx;rw[h1];simpa using hx
  ·have ih:=Zop h.tail x hb'
   split
   ·rw[Nat.testBit_xor,(h.head b hb').2,ih];simp
   ·exact ih
theorem Zlu:∀{B:List Nat},Red B→∀v,red B v=v^^^comb B v
 |[],_,v=>by simp[red,comb]
 |c::B,h,v=>by
  show red B _=_
  rw[Zlu h.tail]
  simp only[comb]
  by_cases hv:v.testBit (low c)=true
  ·rw[if_pos ⟨h.1 c List.mem_cons_self,hv⟩,if_pos hv,ZnG,Zfq (fun a ha=>(h.head a ha).2),Nat.xor_zero,Nat.xor_assoc]
  ·rw[if_neg (fun k=>hv k.2),if_neg hv]
theorem ZmM(h:Red B)(v:Nat){b:Nat}(hb:b∈B):(red B v).testBit (low b)=false:=by
 rw[Zlu h,Nat.testBit_xor,Zop h v hb]
 cases v.testBit (low b)<;>rfl
theorem red_zero(h:Red B)(v:Nat):red B v=0↔Sp B v:=by
 rw[Zlu h]
 constructor
 ·intro k
  rw[eq_of_xor k]
  exact ZlF B v
 ·intro k
  rw[ZlW h k,Nat.xor_self]
def upd(r b:Nat):Nat:=if b.testBit (low r)=true then b^^^r else b
def put(r:Nat):List Nat→List Nat
 |[]=>[r]
 |b::B=>if low r<low b then r::b::B else b::put r B
def ins(B:List Nat)(v:Nat):List Nat:=if red B v=0 then B else put (red B v) (B.map (upd (red B v)))
theorem Zew:∀{B:List Nat},x∈put r B↔x=r∨x∈B
 |[]=>by simp[put]
 |b::B=>by
  simp only[put]
  split
  ·simp
  ·rw[List.mem_cons,Zew,List.mem_cons]
   constructor
   ·rintro(h|h|h)
    ·exact .inr (.inl h)
    ·exact .inl h
    ·exact .inr (.inr h)
   ·rintro(h|h|h)
    ·exact .inr (.inl h)
    ·exact .inl h
    ·exact .inr (.inr h)
theorem ZiL(r:Nat):∀B:List Nat,(put r B).length=B.length+1
 |[]=>rfl
 |b::B=>by
  simp only[put]
  split
  ·rfl
  ·simp[ZiL r B]
theorem Zk0:∀{C:List Nat},(C.Pairwise fun a b=>low a<low b∧a.testBit (low b)=false)→(∀c∈C,low c≠low r∧c.testBit (low r)=false∧r.testBit (low c)=false)→
  (put r C).Pairwise fun a b=>low a<low b∧a.testBit (low b)=false
 |[],_,_=>by simp[put]
 |c::C,h,k=>by
  obtain⟨h1,h2⟩:=List.pairwise_cons.1 h
  simp only[put]
  split
  ·rename_i hlt
   refine List.pairwise_cons.2 ⟨fun a ha=>?_,h⟩
   refine⟨?_,(k a ha).2.2⟩
   rcases List.mem_cons.1 ha with e|ha'
   ·rw[e];exact hlt
   ·have:=(h1 a ha').1;omega
  ·rename_i hlt
   have hc:=k c List.mem_cons_self
   refine List.pairwise_cons.2 ⟨fun a ha=>?_,Zk0 h2 fun a ha=>k a (List.mem_cons_of_mem _ ha)⟩
   rcases Zew.1 ha with e|ha'
   ·rw[e];exact⟨by omega,hc.2.1⟩
   ·exact h1 a ha'
theorem upd_low(h:Red B){v b:Nat}(hr:red B v≠0)(hb:b∈B):low (upd (red B v) b)=low b∧upd (red B v) b≠0:=by
 have hl:=ZmM h v hb
 have hbn:=h.1 b hb
 unfold upd
 split
 ·rename_i hf
  have h1:low b<low (red B v):=by
   have h2:=ZxW hf
   have h3:low b≠low (red B v):=by
    intro e
    rw[e,low_bit hr]at hl
    cases hl
   omega
  have h4:(b^^^red B v).testBit (low b)=true:=by rw[Nat.testBit_xor,low_bit hbn,hl];rfl
  exact⟨low_unique h4 fun j hj=>by rw[Nat.testBit_xor,low_none hbn hj,low_none hr (by omega)];rfl,ne_of_bit h4⟩
 ·exact⟨rfl,hbn⟩
theorem Zyz(h:Red B){v b c:Nat}(hc:c∈B):(upd (red B v) b).testBit (low c)=b.testBit (low c):=by
 unfold upd
 split
 ·rw[Nat.testBit_xor,ZmM h v hc];simp
 ·rfl
theorem ZzD(hr:r≠0):(upd r b).testBit (low r)=false:=by
 unfold upd
 split
 ·rename_i hf;rw[Nat.testBit_xor,hf,low_bit hr];rfl
 ·rename_i hf;simpa using hf
theorem Red.ins(h:Red B)(v:Nat):Red (ins B v):=by
 unfold Ech.ins
 split
 ·exact h
 ·rename_i hr
  refine⟨fun x hx=>?_,Zk0 ?_ ?_⟩
  ·rcases Zew.1 hx with e|hx'
   ·rw[e];exact hr
   ·obtain⟨b,hb,rfl⟩:=List.mem_map.1 hx'
    exact(upd_low h hr hb).2
  ·rw[List.pairwise_map]
   refine List.Pairwise.imp_of_mem ?_ h.2
   intro a b ha hb hab
   rw[(upd_low h hr ha).1,(upd_low h hr hb).1,Zyz h hb]
   exact hab
  ·intro c hc
   obtain⟨b,hb,rfl⟩:=List.mem_map.1 hc
   have hl:=ZmM h v hb
   rw[(upd_low h hr hb).1]
   refine⟨fun e=>?_,ZzD hr,hl⟩
   rw[e,low_bit hr]at hl
   cases hl
theorem Zvm(r b:Nat):b=upd r b∨b=r^^^upd r b:=by
 unfold upd
 split
 ·right
  rw[Zmf,Nat.xor_self,Nat.xor_zero]
 ·exact .inl rfl
theorem ZrT(h:Red B)(v x:Nat):Sp (ins B v) x↔Sp (v::B) x:=by
 have hc:Sp (v::B) (comb B v):=(ZlF B v).mono fun a ha=>List.mem_cons_of_mem _ ha
 have hrs:Sp (v::B) (red B v):=by rw[Zlu h];exact(Sp.of_mem List.mem_cons_self).xor hc
 unfold ins
 split
 ·rename_i hr
  have hv:=(red_zero h v).1 hr
  exact⟨fun k=>k.mono fun a ha=>List.mem_cons_of_mem _ ha,fun k=>k.of fun a ha=>by
   rcases List.mem_cons.1 ha with e|ha'
   ·rw[e];exact hv
   ·exact .of_mem ha'⟩
 ·rename_i hr
  have hB:∀b∈B,Sp (put (red B v) (B.map (upd (red B v)))) b:=fun b hb=>by
   have h1:Sp (put (red B v) (B.map (upd (red B v)))) (upd (red B v) b):=.of_mem (Zew.2 (.inr (List.mem_map.2 ⟨b,hb,rfl⟩)))
   rcases Zvm (red B v) b with e|e
   ·rw[e];exact h1
   ·rw[e];exact(Sp.of_mem (Zew.2 (.inl rfl))).xor h1
  constructor
  ·intro k
   refine k.of fun a ha=>?_
   rcases Zew.1 ha with e|ha'
   ·rw[e];exact hrs
   ·obtain⟨b,hb,rfl⟩:=List.mem_map.1 ha'
    have hbs:Sp (v::B) b:=.of_mem (List.mem_cons_of_mem _ hb)
    unfold upd
    split
    ·exact hbs.xor hrs
    ·exact hbs
  ·intro k
   refine k.of fun a ha=>?_
   rcases List.mem_cons.1 ha with e|ha'
   ·have hv:v=red B v^^^comb B v:=by rw[Zlu h,Zvw]
    have hx:=(Sp.of_mem (Zew.2 (.inl rfl))).xor ((ZlF B v).of hB)
    rw[←hv]at hx
    rw[e]
    exact hx
   ·exact hB a ha'
theorem ZoM(B:List Nat)(v:Nat):(ins B v).length≤B.length+1:=by
 unfold ins
 split
 ·omega
 ·rw[ZiL,List.length_map];exact Nat.le_refl _
def basis(l:List Nat):List Nat:=l.foldl ins []
theorem Zg4:∀(l B:List Nat),Red B→Red (l.foldl ins B)∧(∀x,Sp (l.foldl ins B) x↔Sp (B++l) x)∧(l.foldl ins B).length≤B.length+l.length
 |[],B,h=>⟨h,fun x=>by simp,by simp⟩
 |v::l,B,h=>by
  obtain⟨h1,h2,h3⟩:=Zg4 l (ins B v) (h.ins v)
  refine⟨h1,fun x=>?_,?_⟩
  ·show Sp (l.foldl ins (ins B v)) x↔_
   rw[h2]
   constructor
   ·intro k
    refine k.of fun a ha=>?_
    rcases List.mem_append.1 ha with ha|ha
    ·refine((ZrT h v a).1 (.of_mem ha)).mono fun c hc=>?_
     rcases List.mem_cons.1 hc with e|hc
     ·rw[e];simp
     ·simp[hc]
    ·exact .of_mem (by simp[ha])
   ·intro k
    refine k.of fun a ha=>?_
    rcases List.mem_append.1 ha with ha|ha
    ·exact((ZrT h v a).2 (.of_mem (List.mem_cons_of_mem _ ha))).mono fun c hc=>List.mem_append_left _ hc
    ·rcases List.mem_cons.1 ha with e|ha
     ·rw[e]
      exact((ZrT h v v).2 (.of_mem List.mem_cons_self)).mono fun c hc=>List.mem_append_left _ hc
     ·exact .of_mem (List.mem_append_right _ ha)
  ·show(l.foldl ins (ins B v)).length≤_
   have:=ZoM B v
   simp only[List.length_cons]
   omega
theorem red_basis(l:List Nat):Red (basis l):=(Zg4 l [] .nil).1
theorem sp_basis(l:List Nat)(x:Nat):Sp (basis l) x↔Sp l x:=(Zg4 l [] .nil).2.1 x
theorem Zn1:∀{A:List Nat},Red A→∀{x:Nat},comb A x≠0→∃a∈A,low (comb A x)=low a
 |[],_,x,h=>by simp[comb]at h
 |c::A,h,x,hx=>by
  simp only[comb]at hx⊢
  split
  ·have hn:=h.1 c List.mem_cons_self
   refine⟨c,List.mem_cons_self,low_unique ?_ fun j hj=>?_⟩
   ·rw[Nat.testBit_xor,low_bit hn,Zdh (h.low_lt (Nat.le_refl _))];rfl
   ·rw[Nat.testBit_xor,low_none hn hj,Zdh (h.low_lt (Nat.le_of_lt hj))];rfl
  ·rename_i hb
   rw[if_neg hb]at hx
   obtain⟨a,ha,e⟩:=Zn1 h.tail hx
   exact⟨a,List.mem_cons_of_mem _ ha,e⟩
theorem ZxS(h:Red A){x:Nat}(k:Sp A x)(hx:x≠0):∃a∈A,low x=low a:=by
 have e:=ZlW h k
 have:=Zn1 h (x:=x) (by rw[e];exact hx)
 rwa[e]at this
theorem ZmT(hA:Red A)(hB:Red B)(hs:∀x,Sp A x↔Sp B x):∀a∈A,a∈B:=by
 intro a ha
 obtain⟨b,hb,hab⟩:=ZxS hB ((hs a).1 (.of_mem ha)) (hA.1 a ha)
 have hy:Sp A (a^^^b):=(Sp.of_mem ha).xor ((hs b).2 (.of_mem hb))
 have h0:comb A (a^^^b)=0:=by
  refine Zfq fun c hc=>?_
  rw[Nat.testBit_xor]
  by_cases e:a=c
  ·subst e
   rw[low_bit (hA.1 a ha),hab,low_bit (hB.1 b hb)];rfl
  ·obtain⟨d,hd,hcd⟩:=ZxS hB ((hs c).1 (.of_mem hc)) (hA.1 c hc)
   have h1:=hA.two ha hc e
   have hne:b≠d:=by
    rintro rfl
    exact h1.1 (hab.trans hcd.symm)
   rw[h1.2,hcd,(hB.two hb hd hne).2];rfl
 rw[ZlW hA hy]at h0
 rw[eq_of_xor h0]
 exact hb
theorem ZiF:∀{A B:List Nat},Red A→Red B→(∀x,x∈A↔x∈B)→A=B
 |[],[],_,_,_=>rfl
 |[],b::B,_,_,h=>by have:=(h b).2 List.mem_cons_self;cases this
 |a::A,[],_,_,h=>by have:=(h a).1 List.mem_cons_self;cases this
 |a::A,b::B,hA,hB,h=>by
  have e:a=b:=by
   rcases List.mem_cons.1 ((h a).1 List.mem_cons_self)with e|h1
   ·exact e
   ·rcases List.mem_cons.1 ((h b).2 List.mem_cons_self)with e|h2
    ·exact e.symm
    ·have h3:=(hB.head a h1).1
     have h4:=(hA.head b h2).1
     omega
  subst e
  have hna:a∉A:=fun k=>by have:=(hA.head a k).1;omega
  have hnb:a∉B:=fun k=>by have:=(hB.head a k).1;omega
  rw[ZiF hA.tail hB.tail fun x=>?_]
  constructor
  ·intro k
   rcases List.mem_cons.1 ((h x).1 (List.mem_cons_of_mem _ k))with e|k'
   ·rw[e]at k;exact absurd k hna
   ·exact k'
  ·intro k
   rcases List.mem_cons.1 ((h x).2 (List.mem_cons_of_mem _ k))with e|k'
   ·rw[e]at k;exact absurd k hnb
   ·exact k'
theorem uniq(hA:Red A)(hB:Red B)(hs:∀x,Sp A x↔Sp B x):A=B:=
 ZiF hA hB fun x=>⟨ZmT hA hB hs x,ZmT hB hA (fun y=>(hs y).symm) x⟩
end Go.Proofs.YtlhhinlghhjghaaGreatDoor.Ech
