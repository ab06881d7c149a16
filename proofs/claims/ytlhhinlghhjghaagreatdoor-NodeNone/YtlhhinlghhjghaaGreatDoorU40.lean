/-
  Contracts of the three ways by which a node makes a packet, and of node.emitterOf. Condition: the source's blocks are at most 128, the tables stand.
  Contract of node.frame: the frame that a node sends. Condition: the tables stand, at most 2^20 draws.
-/
import Derived.Test.YtlhhinlghhjghaaGreatDoorU37
import Derived.Test.YtlhhinlghhjghaaGreatDoorU38
import Derived.Test.YtlhhinlghhjghaaGreatDoorU39
namespace Go.Proofs.YtlhhinlghhjghaaGreatDoor
open Go.RowKit Go.Sort
set_option linter.unusedVariables false
set_option linter.unusedSimpArgs false
set_option maxRecDepth 4000
set_option maxHeartbeats 8000000
variable {cs:List Value}{g:Nat}{T:TypeId}{w:World}
theorem Zet{tmps:Array Value}{W:World}{b:Bool}{u0 u1 u2 u3 u4 u5 u6:Value}(h2:tmps.getD 4 undef=.pointer (some ⟨g,0,none⟩))(h3:tmps.getD 5 undef=.bool b)(hq:PkB W g u0 u1 u2 u3 u4 u5 u6):
  (results Tryz.f137 tmps).run Tryz.prog W=.ok (.tuple #[.agg #[u0,u1,u2,u3,u4,u5,u6],.bool b]) W∧(results Tryz.f138 tmps).run Tryz.prog W=.ok (.tuple #[.agg #[u0,u1,u2,u3,u4,u5,u6],.bool b]) W∧(results Tryz.f139 tmps).run Tryz.prog W=.ok (.tuple #[.agg #[u0,u1,u2,u3,u4,u5,u6],.bool b]) W:=by
 obtain⟨k0,k1,k2,k3,k4,k5,k6⟩:=hq.at
 have h2':tmps[4]?.getD undef=.pointer (some ⟨g,0,none⟩):=by simpa using h2
 have h3':tmps[5]?.getD undef=.bool b:=by simpa using h3
 refine⟨?_,?_,?_⟩
 ·simp[results,Tryz.results137,go_sem,h2',h3',k0,k1,k2,k3,k4,k5,k6]
 ·simp[results,Tryz.results138,go_sem,h2',h3',k0,k1,k2,k3,k4,k5,k6]
 ·simp[results,Tryz.results139,go_sem,h2',h3',k0,k1,k2,k3,k4,k5,k6]
def wayF(k:Int):FuncId:=if k=1 then 137 else if k=2 then 138 else 139
theorem Zz9(k:Int)(w:World):Calls Tryz.prog 80 #[.int .i64 k] w fun e w'=>e=.returned (.func (.func (wayF k)) #[] #[])∧w'=w:=by
 unfold wayF
 by_cases h1:k=1
 ·subst h1
  go_enter Tryz.func80,Tryz.ntmps80
  go_wp2
  go_ret
  exact⟨rfl,rfl⟩
 ·by_cases h2:k=2
  ·subst h2
   go_enter Tryz.func80,Tryz.ntmps80
   go_wp2
   go_ret
   exact⟨rfl,rfl⟩
  ·rw[if_neg h1,if_neg h2]
   go_enter Tryz.func80,Tryz.ntmps80
   go_wp2
   go_ret
   exact⟨rfl,rfl⟩
theorem Zw4(a b:Value)(w:World):Calls Tryz.prog 139 #[a,b] w fun e w'=>e=.returned (.tuple #[zPK.val,.bool false])∧Below w.heap.size w w':=by
 have X:=hide (ZaG w (.int .i64 0) (.int .i64 0) (.int .i64 0) (.int .i64 0) (.int .i64 0) (.slice none 0 0) (.string ⟨#[]⟩))
 go_enter Tryz.func139,Tryz.ntmps139
 go_wp2
 exact bodyPost_ret (Zet rfl rfl (unhide X)).2.2 rfl ⟨rfl,alloc_low _ _⟩
def srcD(o:Nat)(r:SRV)(L:List Nat):PD:=⟨(o:Int),r.l,(r.ss.length:Int),r.z,0,ZdC r.ss.length r.k L 0,st (ofL r.ss (ZdC r.ss.length r.k L 0) r.ss.length)⟩
theorem ZqW(g gd Bd o:Nat)(r:SRV)(L:List Nat)(w:World)(hk:w.cell? ⟨g,10,none⟩=some (.pointer (some ⟨r.g,0,none⟩)))(hs:SrcAt w r.g (o:Int) r.l r.z r.k r.ss)(h1:1≤r.ss.length)(h2:r.ss.length≤128)(h3:r.k≤r.ss.length)(hsh:shorts r.ss)(ht:PTab w)(hd:DrAt w gd Bd L 0)(hB:Bd≤w.heap.size):
  Calls Tryz.prog 137 #[.pointer (some ⟨g,0,none⟩),.pointer (some ⟨gd,0,none⟩)] w fun e w'=> ∃q:PKV,e=.returned (.tuple #[q.val,.bool true])∧q.pd=srcD o r L∧RowAt w' q.r.a q.r.n q.r.xs∧w.grownBy w' (some gd):=by
 have hb:=alloc_low w (.cells #[.int .i64 0,.int .i64 0,.int .i64 0,.int .i64 0,.int .i64 0,.slice none 0 0,.string ⟨#[]⟩] 59)
 have X:=hide (ZaG w (.int .i64 0) (.int .i64 0) (.int .i64 0) (.int .i64 0) (.int .i64 0) (.slice none 0 0) (.string ⟨#[]⟩))
 have HE:=hide (ZvK r.g gd Bd (o:Int) r.l r.z r.k r.ss.length r.ss L 0 _ (hs.below hb) rfl h1 h2 h3 hsh (ht.below hb) (hd.below (hb.mono hB)) (by rw[Zab];omega) (by decide))
 have hgd:=hd.lt
 have hkk:=(hb.cell (World.block_lt_of_cell? w _ hk)).trans hk
 clear hs hsh ht hd hk
 unfold srcD
 generalize st (ofL r.ss (ZdC r.ss.length r.k L 0) r.ss.length)=D at*
 generalize ZdC r.ss.length r.k L 0=V at*
 generalize r.ss.length=k at*
 generalize sizeOfK (k:Int)=m at*
 have HB:=hide hb
 clear hb
 go_enter Tryz.func137,Tryz.ntmps137
 go_wp2_with (first
  |(go_at_call 189;refine(unhide HE).mono ?_;rintro e w1 ⟨a1,c1,rfl,hr1, -,hg1⟩;have x1:=(unhide X).kept hg1 (fun e=>by have:=Option.some.inj e;omega);obtain⟨y0,y1,y2,y3,y4,y5,y6⟩:=x1.at;have f0:=x1.frz 0;have f1:=x1.frz 1;have f2:=x1.frz 2;have f3:=x1.frz 3;have f4:=x1.frz 4;have f5:=x1.frz 5;have f6:=x1.frz 6;have X1:=hide x1;have HR1:=hide hr1;have HG1:=hide hg1;clear x1 hr1 hg1)
  |fail)
 refine bodyPost_ret (Zet rfl rfl ((unhide X1).sets (.int .i64 (o:Int)) (.int .i64 r.l) (.int .i64 (k:Int)) (.int .i64 r.z) (.int .i64 0) (.slice a1 m c1) (.string D))).1 rfl ⟨⟨(o:Int),r.l,(k:Int),r.z,0,⟨a1,m,c1,V,D⟩⟩,rfl,rfl,(unhide HR1).other7 ((unhide X1).apart (unhide HR1)) _ _ _ _ _ _ _,?_⟩
 exact ZfP (gb_trans (Zai (unhide HB) (some gd)) (unhide HG1) (.inl rfl)) (Zbd (Below.refl _ _) (Nat.le_refl _) _ _ _ _ _ _ _)
theorem ZrZ(g gd Bd:Nat)(r:RLV)(B m:Nat)(t:Int)(L:List Nat)(w:World)(hk:w.cell? ⟨g,14,none⟩=some (.pointer (some ⟨r.g,0,none⟩)))(hs:RlAt w r.g r.gb B m t r.i r.v r.ps)(htt: -1099511627776≤t∧t≤1099511627776)(ht:Tab w)(hd:DrAt w gd Bd L 0)(hB:Bd≤w.heap.size):
  Calls Tryz.prog 138 #[.pointer (some ⟨g,0,none⟩),.pointer (some ⟨gd,0,none⟩)] w fun e w'=> ∃q:PKV,e=.returned (.tuple #[q.val,.bool (ZjU (r.ps.map PKV.pd) L 0 t).isSome])∧q.pd=(ZjU (r.ps.map PKV.pd) L 0 t).getD zPK.pd∧RowAt w' q.r.a q.r.n q.r.xs∧w.grownBy w' (some gd):=by
 have hb:=alloc_low w (.cells #[.int .i64 0,.int .i64 0,.int .i64 0,.int .i64 0,.int .i64 0,.slice none 0 0,.string ⟨#[]⟩] 59)
 have X:=hide (ZaG w (.int .i64 0) (.int .i64 0) (.int .i64 0) (.int .i64 0) (.int .i64 0) (.slice none 0 0) (.string ⟨#[]⟩))
 have HE:=hide (Zqj r.g r.gb B m t r.i r.v r.ps gd Bd L 0 _ (ht.below hb) (hs.below hb) (hd.below (hb.mono hB)) (by rw[Zab];omega) (by decide) htt)
 have hgd:=hd.lt
 have hkk:=(hb.cell (World.block_lt_of_cell? w _ hk)).trans hk
 clear hs ht hd hk
 generalize ZjU (r.ps.map PKV.pd) L 0 t=O at*
 have HB:=hide hb
 clear hb
 go_enter Tryz.func138,Tryz.ntmps138
 go_wp2_with (first
  |(go_at_call 190;refine(unhide HE).mono ?_;rintro e w1 ⟨hr1, -,hg1⟩;obtain⟨q,rfl,hq,hr1⟩:=hr1.row;obtain⟨qo,ql,qk,qz,qh,qa,qn,qc,qx,qs⟩:=q;simp only[PKV.val];have x1:=(unhide X).kept hg1 (fun e=>by have:=Option.some.inj e;omega);obtain⟨y0,y1,y2,y3,y4,y5,y6⟩:=x1.at;have f0:=x1.frz 0;have f1:=x1.frz 1;have f2:=x1.frz 2;have f3:=x1.frz 3;have f4:=x1.frz 4;have f5:=x1.frz 5;have f6:=x1.frz 6;have X1:=hide x1;have HR1:=hide hr1;have HQ:=hide hq;have HG1:=hide hg1;clear x1 hr1 hg1 hq)
  |fail)
 refine bodyPost_ret (Zet rfl rfl ((unhide X1).sets (.int .i64 qo) (.int .i64 ql) (.int .i64 qk) (.int .i64 qz) (.int .i64 qh) (.slice qa qn qc) (.string qs))).2.1 rfl ⟨⟨qo,ql,qk,qz,qh,⟨qa,qn,qc,qx,qs⟩⟩,rfl,unhide HQ,(unhide HR1).other7 ((unhide X1).apart (unhide HR1)) _ _ _ _ _ _ _,?_⟩
 exact ZfP (gb_trans (Zai (unhide HB) (some gd)) (unhide HG1) (.inl rfl)) (Zbd (Below.refl _ _) (Nat.le_refl _) _ _ _ _ _ _ _)
structure SrcOk(o:Nat)(r:SRV):Prop where
 one:1≤r.ss.length
 most:r.ss.length≤128
 k:r.k≤r.ss.length
 sh:shorts r.ss
 ck:∀L,okD (srcD o r L)=true
def emD(n:NDD)(L:List Nat):Option PD:=match n.src with
 |some r=>some (srcD n.id r L)
 |none=>match n.s.rl with
  |some r=>ZjU (r.ps.map PKV.pd) L 0 (Zfk n.p.target)
  |none=>none
theorem Zog(g B gd Bd:Nat)(n:NDD)(L:List Nat)(w:World)(h:NdAt w g B n)(ht:Tabs w)(hok:∀r,n.src=some r→SrcOk n.id r)(hd:DrAt w gd Bd L 0)(hB:Bd≤w.heap.size):
  Calls Tryz.prog (wayF n.p.kd) #[.pointer (some ⟨g,0,none⟩),.pointer (some ⟨gd,0,none⟩)] w fun e w'=> ∃q:PKV,e=.returned (.tuple #[q.val,.bool (emD n L).isSome])∧q.pd=(emD n L).getD zPK.pd∧RowAt w' q.r.a q.r.n q.r.xs∧w.grownBy w' (some gd):=by
 have hc:=h.blk
 unfold wayF emD
 rcases h.kd with⟨a,b,c,d⟩|⟨a,b,c,d⟩|⟨a,b,c,d⟩
 ·rw[if_pos a]
  cases hr:n.src with
  |none=>exact absurd hr b
  |some r=>
   have k:=hok r hr
   exact(ZqW g gd Bd n.id r L w (by have:=hc.at 10 rfl;rwa[hr]at this) (h.src r hr).src k.one k.most k.k k.sh ht.pl hd hB).mono fun e w' h=>h
 ·rw[if_neg (by omega),if_pos a,b]
  cases hr:n.s.rl with
  |none=>exact absurd hr c
  |some r=>exact(ZrZ g gd Bd r B _ _ L w (by have:=hc.at 14 rfl;rwa[hr]at this) (h.st.rl r hr) (Zu8 _) ht.tab hd hB).mono fun e w' h=>h
 ·rw[if_neg (by omega),if_neg (by omega),b,c]
  exact(Zw4 _ _ w).mono fun e w' ⟨he,hb⟩=>⟨zPK,he,rfl,ZbT _,Zai hb _⟩
theorem Zkb(k:Int)(args:Array Value)(w:World):Sem.run Tryz.prog (callFunc (wayF k) args) w=.ok (.enter (wayF k) args) w:=by
 unfold wayF
 split
 ·kernel_rfl
 ·split
  ·kernel_rfl
  ·kernel_rfl
def FrP(n:NDD)(L:List Nat)(f:FRV):Prop:=f.fr=n.id∧f.ic=n.inc∧f.kd=(if (emD n L).isSome=true then 2 else 1)∧f.p.pd=(emD n L).getD zPK.pd
theorem Zd5:(Tryz.prog.info? 78).map (·.size)=some 10:=by kernel_rfl
theorem Zh9{tmps:Array Value}{W:World}(h2:tmps.getD 4 undef=.pointer (some ⟨g,0,none⟩))(hq:BkA 78 W g cs)(hl:cs.length=10):(results Tryz.f35 tmps).run Tryz.prog W=.ok (.agg cs.toArray) W:=by
 have hld:=hq.load Tryz.underlying78 rfl Zd5 hl
 have h2':tmps[4]?.getD undef=.pointer (some ⟨g,0,none⟩):=by simpa using h2
 simp[results,Tryz.results35,asAddr,h2',hld]
theorem ZyK(a:Option Addr)(n c:Nat)(xs:List Nat)(w:World)(h:RowAt w a n xs)(hn:n≤1048576):Calls Tryz.prog 81 #[.slice a n c] w fun e w'=> ∃g,e=.returned (.pointer (some ⟨g,0,none⟩))∧Hid (w.heap.size≤g∧DrAt w' g w'.heap.size xs 0∧Below w.heap.size w w'):=
 (ZAa a n c xs w h hn).mono fun e w' ⟨g,he,h⟩=>⟨g,he,hide h⟩
def Zta(w:World)(q:Nat)(u0 u3 u4 u5 u6 u7 u8 u9:Value):World:=((((((((w.setCell ⟨q,0,none⟩ u0).setCell ⟨q,3,none⟩ u3).setCell ⟨q,4,none⟩ u4).setCell ⟨q,5,none⟩ u5).setCell ⟨q,6,none⟩ u6).setCell ⟨q,7,none⟩ u7).setCell ⟨q,8,none⟩ u8).setCell ⟨q,9,none⟩ u9).drew
theorem BkA.drew(h:BkA T w g cs):BkA T w.drew g cs:=h
theorem BkA.putF{q:Nat}{v0 v1 v2 v3 v4 v5 v6 v7 v8 v9:Value}(h:BkA T w q [v0,v1,v2,v3,v4,v5,v6,v7,v8,v9])(u0 u3 u4 u5 u6 u7 u8 u9:Value):BkA T (Zta w q u0 u3 u4 u5 u6 u7 u8 u9) q [u0,v1,v2,u3,u4,u5,u6,u7,u8,u9]:=by
 have h0:BkA T _ q [u0,v1,v2,v3,v4,v5,v6,v7,v8,v9]:=h.set 0 u0
 have h3:BkA T _ q [u0,v1,v2,u3,v4,v5,v6,v7,v8,v9]:=h0.set 3 u3
 have h4:BkA T _ q [u0,v1,v2,u3,u4,v5,v6,v7,v8,v9]:=h3.set 4 u4
 have h5:BkA T _ q [u0,v1,v2,u3,u4,u5,v6,v7,v8,v9]:=h4.set 5 u5
 have h6:BkA T _ q [u0,v1,v2,u3,u4,u5,u6,v7,v8,v9]:=h5.set 6 u6
 have h7:BkA T _ q [u0,v1,v2,u3,u4,u5,u6,u7,v8,v9]:=h6.set 7 u7
 have h8:BkA T _ q [u0,v1,v2,u3,u4,u5,u6,u7,u8,v9]:=h7.set 8 u8
 have h9:BkA T _ q [u0,v1,v2,u3,u4,u5,u6,u7,u8,u9]:=h8.set 9 u9
 unfold Zta
 exact h9.drew
theorem Tu.drew{F:Nat→Prop}{w':World}(h:Tu F w w'):Tu F w w'.drew:=h.trans (Tu.of_below (F:=F) (Below.refl _ _).drew) fun _ _ e=>e
theorem Zvy(w:World)(q:Nat)(u0 u3 u4 u5 u6 u7 u8 u9:Value):Tu (fun j=>j=q) w (Zta w q u0 u3 u4 u5 u6 u7 u8 u9):=
 ((((((((Zav w q 0 u0).trans (Zav _ q 3 u3) fun _ _ e=>e).trans (Zav _ q 4 u4) fun _ _ e=>e).trans (Zav _ q 5 u5) fun _ _ e=>e).trans (Zav _ q 6 u6) fun _ _ e=>e).trans (Zav _ q 7 u7) fun _ _ e=>e).trans (Zav _ q 8 u8) fun _ _ e=>e).trans (Zav _ q 9 u9) fun _ _ e=>e).drew
theorem BkA.row{q:Nat}{a:Option Addr}{n:Nat}{xs:List Nat}(h:BkA T w q cs)(hr:RowAt w a n xs)(hc:∀x∈cs,∀i,x≠ .int .u64 i){w':World}(ht:Tu (fun j=>j=q) w w'):RowAt w' a n xs:=by
 refine⟨hr.1,hr.2.1,?_⟩
 rcases hr.2.2 with h0|⟨b,off,rfl,hx⟩
 ·exact .inl h0
 ·refine .inr ⟨b,off,rfl,fun i hi=>ht.cell (hx i hi) fun e=>?_⟩
  have e:b=q:=e
  have h1:=hx i hi
  subst e
  unfold BkA at h
  rw[cell_of_row w b _ _ _ _ h]at h1
  have h2:cs[off+i]? =some (.int .u64 ((xs.getD i 0:Nat):Int)):=by simpa using h1
  exact hc _ (List.mem_of_getElem? h2) _ rfl
theorem ZlY(g B:Nat)(n:NDD)(a:Option Addr)(dn dc:Nat)(L:List Nat)(w:World)(h:NdAt w g B n)(ht:Tabs w)(hok:∀r,n.src=some r→SrcOk n.id r)(hd:RowAt w a dn L)(hdn:dn≤1048576):
  Calls Tryz.prog 35 #[.pointer (some ⟨g,0,none⟩),.slice a dn dc] w fun e w'=> ∃f:FRV,e=.returned f.val∧FrP n L f∧RowAt w' f.p.r.a f.p.r.n f.p.r.xs∧Below w.heap.size w w':=by
 have c0:=h.blk.at 0 rfl
 have c1:=h.blk.at 1 rfl
 have hgl:=h.blk.lt
 have H:=hide h
 have HT:=hide ht
 have HOK:=hide hok
 have hinc:=h.num.1
 have HW:=hide (fun wx=>Zz9 n.p.kd wx)
 have HDN:=hide (fun wx (hb:Below w.heap.size w wx)=>ZyK a dn dc L wx (hd.below hb) hdn)
 obtain⟨W,hW,X,B1⟩:∃W,W=w.alloc (.cells #[.int .i64 0,.int .i64 0,.int .i64 0,.int .i64 0,.int .i64 0,.int .i64 0,.int .i64 0,.int .i64 0,.slice none 0 0,.string ⟨#[]⟩] 78)∧BkA 78 W w.heap.size [.int .i64 0,.int .i64 0,.int .i64 0,.int .i64 0,.int .i64 0,.int .i64 0,.int .i64 0,.int .i64 0,.slice none 0 0,.string ⟨#[]⟩]∧Below w.heap.size w W:=⟨_,rfl,Zag 78 w [_,_,_,_,_,_,_,_,_,_],alloc_low _ _⟩
 have HX:=hide X
 have HB:=hide B1
 have c0:=(B1.cell hgl).trans c0
 have c1:=(B1.cell hgl).trans c1
 have hwz:W.heap.size=w.heap.size+1:=by rw[hW,Zab]
 have hne:W.heap.size≠g:=by omega
 have hwr:IntKind.i64.wrap (n.inc:Int)=(n.inc:Int):=by rw[IntKind.wrap_i64];omega
 have HWZ:=hide hwz
 clear X B1 ht hok hd h hwz
 go_enter Tryz.func35,Tryz.ntmps35
 go_wp2_with fail
 rw[←hW]
 clear hW
 go_cut [5] from 9 to 18 (fun t wx=> ∃q,t=.pointer (some ⟨q,0,none⟩)∧Hid (BkA 78 wx q [.int .i64 1,.int .i64 (n.id:Int),.int .i64 (n.inc:Int),.int .i64 0,.int .i64 0,.int .i64 0,.int .i64 0,.int .i64 0,.slice none 0 0,.string ⟨#[]⟩]∧W.heap.size≤q∧Below W.heap.size W wx))
 case first=>
  go_region_held3 (fun w'=>w'.cell? ⟨g,0,none⟩=some (.int .i64 (n.id:Int))∧w'.cell? ⟨g,1,none⟩=some (.int .u32 (n.inc:Int))) (go_keep) (first|fail)
  go_wp2_with fail
  go_meet
  exact⟨_,rfl,hide ⟨Zag 78 W [_,_,_,_,_,_,_,_,_,_],Nat.le_refl _,(alloc_low _ _).drew⟩⟩
 case rest=>
  obtain⟨q,rfl,HQ⟩:=hcut
  rename_i wc
  have HBC:=hide (below0 (unhide HB) (unhide HQ).2.2)
  have HNC:=hide ((unhide H).below (unhide HBC))
  have e2:=(unhide HNC).blk.at 2 rfl
  have hqg:q≠w.heap.size:=by have:=(unhide HQ).2.1;have:=unhide HWZ;omega
  clear c0 c1
  generalize hO:emD n L=O at*
  have HO:=hide hO
  clear hO
  cases O with
  |none=>
   go_wp2_with (first
    |(go_at_call 80;refine(unhide HW _).mono ?_;rintro e w1 ⟨rfl,hw1⟩;obtain rfl:=hw1.symm;clear hw1)
    |(go_at_call 81;refine(unhide HDN _ (unhide HBC)).mono ?_;rintro e w2 ⟨gd,rfl,HD2⟩;have HN2:=hide ((unhide HNC).below (unhide HD2).2.2);have HB2:=hide (below0 (unhide HBC) (unhide HD2).2.2);have HQ2:=hide ((unhide HQ).1.below (unhide HD2).2.2);have HX2:=hide (((unhide HX).below (unhide HQ).2.2).below (unhide HD2).2.2))
    |fail)
   rw[Zkb,Oper.upon_enter]
   refine(Zog g B gd w2.heap.size n L w2 (unhide HN2) ((unhide HT).below (unhide HB2)) (unhide HOK) (unhide HD2).2.1 (Nat.le_refl _)).mono ?_
   rw[unhide HO]
   rintro e w3 ⟨⟨qo,ql,qk,qz,qh,qa,qn,qc,qx,qs⟩,rfl,hq3,hr3,hg3⟩
   have hgd:w.heap.size≤gd:=Nat.le_trans (unhide HBC).size (unhide HD2).1
   have hgq:some q≠some gd:=fun e=>by have:=(unhide HQ).1.lt;have:=(unhide HD2).1;have:=Option.some.inj e;omega
   have hgx:some w.heap.size≠some gd:=fun e=>by have:=((unhide HX).below (unhide HQ).2.2).lt;have:=(unhide HD2).1;have:=Option.some.inj e;omega
   have hq3':=(unhide HQ2).kept hg3 hgq
   have hx3:=(unhide HX2).kept hg3 hgx
   have HR3:=hide hr3
   have HP3:=hide hq3
   have HB3:=hide ((unhide HB2).trans (Zx3 hg3 (unhide HB2).size hgd))
   have HQS:=hide (fun ob=>hq3'.below (alloc_low w3 ob))
   have HXS:=hide (fun ob=>hx3.below (alloc_low w3 ob))
   have HQL:=hide hq3'.lt
   clear hq3' hx3 hr3 hq3 hg3 hgd hgq hgx
   simp only[PKV.val,Option.isSome_none]
   go_wp2_with (first
    |((with_reducible refine Zms 78 Tryz.underlying78 rfl Zd5 5 q _ ?_ (unhide HQS _) rfl ?_);(focus rfl))
    |((with_reducible refine Zfg 78 Zd5 4 37 w.heap.size _ [.int .i64 1,.int .i64 (n.id:Int),.int .i64 (n.inc:Int),.int .i64 0,.int .i64 0,.int .i64 0,.int .i64 0,.int .i64 0,.slice none 0 0,.string ⟨#[]⟩] ?_ ?_ (unhide HXS _) rfl rfl ?_ ?_);(focus rfl);(focus rfl);(focus simp[Value.oneCell']);intro w4 hx4 ht4;have HX4:=hide hx4;have HT4:=hide ht4;clear hx4 ht4)
    |fail)
   exact bodyPost_ret (Zh9 rfl (unhide HX4) rfl) rfl ⟨⟨1,n.id,n.inc,zPK⟩,rfl,⟨rfl,rfl,by rw[unhide HO];rfl,by rw[unhide HO];rfl⟩,ZbT _,Ze2 (below0 (unhide HB3) (alloc_low _ _)) (unhide HT4) (Nat.le_refl _)⟩
  |some D=>
   go_wp2_with (first
    |(go_at_call 80;refine(unhide HW _).mono ?_;rintro e w1 ⟨rfl,hw1⟩;obtain rfl:=hw1.symm;clear hw1)
    |(go_at_call 81;refine(unhide HDN _ (unhide HBC)).mono ?_;rintro e w2 ⟨gd,rfl,HD2⟩;have HN2:=hide ((unhide HNC).below (unhide HD2).2.2);have HB2:=hide (below0 (unhide HBC) (unhide HD2).2.2);have HQ2:=hide ((unhide HQ).1.below (unhide HD2).2.2);have HX2:=hide (((unhide HX).below (unhide HQ).2.2).below (unhide HD2).2.2))
    |fail)
   rw[Zkb,Oper.upon_enter]
   refine(Zog g B gd w2.heap.size n L w2 (unhide HN2) ((unhide HT).below (unhide HB2)) (unhide HOK) (unhide HD2).2.1 (Nat.le_refl _)).mono ?_
   rw[unhide HO]
   rintro e w3 ⟨⟨qo,ql,qk,qz,qh,qa,qn,qc,qx,qs⟩,rfl,hq3,hr3,hg3⟩
   have hgd:w.heap.size≤gd:=Nat.le_trans (unhide HBC).size (unhide HD2).1
   have hgq:some q≠some gd:=fun e=>by have:=(unhide HQ).1.lt;have:=(unhide HD2).1;have:=Option.some.inj e;omega
   have hgx:some w.heap.size≠some gd:=fun e=>by have:=((unhide HX).below (unhide HQ).2.2).lt;have:=(unhide HD2).1;have:=Option.some.inj e;omega
   have hq3':=(unhide HQ2).kept hg3 hgq
   have hx3:=(unhide HX2).kept hg3 hgx
   have HR3:=hide hr3
   have HP3:=hide hq3
   have HB3:=hide ((unhide HB2).trans (Zx3 hg3 (unhide HB2).size hgd))
   have HQS:=hide (fun ob=>hq3'.below (alloc_low w3 ob))
   have HXS:=hide (fun ob=>hx3.below (alloc_low w3 ob))
   have HQL:=hide hq3'.lt
   clear hq3' hx3 hr3 hq3 hg3 hgd hgq hgx
   simp only[PKV.val,Option.isSome_some]
   have kk:=unhide HQS (.cells #[.int .i64 qo,.int .i64 ql,.int .i64 qk,.int .i64 qz,.int .i64 qh,.slice qa qn qc,.string qs] 59)
   have k0:=kk.at 0 rfl
   have k3:=kk.at 3 rfl
   have k4:=kk.at 4 rfl
   have k5:=kk.at 5 rfl
   have k6:=kk.at 6 rfl
   have k7:=kk.at 7 rfl
   have k8:=kk.at 8 rfl
   have k9:=kk.at 9 rfl
   have f0:=kk.frz 0
   have f3:=kk.frz 3
   have f4:=kk.frz 4
   have f5:=kk.frz 5
   have f6:=kk.frz 6
   have f7:=kk.frz 7
   have f8:=kk.frz 8
   have f9:=kk.frz 9
   have hq9:w3.heap.size≠q:=Nat.ne_of_gt (unhide HQL)
   have ht5:=Zvy (w3.alloc (.cells #[.int .i64 qo,.int .i64 ql,.int .i64 qk,.int .i64 qz,.int .i64 qh,.slice qa qn qc,.string qs] 59)) q (.int .i64 2) (.int .i64 qo) (.int .i64 ql) (.int .i64 qk) (.int .i64 qz) (.int .i64 qh) (.slice qa qn qc) (.string qs)
   have HQ5:=hide ((unhide HQS (.cells #[.int .i64 qo,.int .i64 ql,.int .i64 qk,.int .i64 qz,.int .i64 qh,.slice qa qn qc,.string qs] 59)).putF (.int .i64 2) (.int .i64 qo) (.int .i64 ql) (.int .i64 qk) (.int .i64 qz) (.int .i64 qh) (.slice qa qn qc) (.string qs))
   have HX5:=hide ((unhide HXS (.cells #[.int .i64 qo,.int .i64 ql,.int .i64 qk,.int .i64 qz,.int .i64 qh,.slice qa qn qc,.string qs] 59)).tu ht5 fun e=>hqg e.symm)
   have HR5:=hide ((unhide HQS (.cells #[.int .i64 qo,.int .i64 ql,.int .i64 qk,.int .i64 qz,.int .i64 qh,.slice qa qn qc,.string qs] 59)).row ((unhide HR3).below (alloc_low w3 (.cells #[.int .i64 qo,.int .i64 ql,.int .i64 qk,.int .i64 qz,.int .i64 qh,.slice qa qn qc,.string qs] 59))) (by simp) ht5)
   have HB5:=hide (Ze2 (below0 (unhide HB3) (alloc_low w3 (.cells #[.int .i64 qo,.int .i64 ql,.int .i64 qk,.int .i64 qz,.int .i64 qh,.slice qa qn qc,.string qs] 59))) ht5 (by have:=(unhide HQ).2.1;have:=(unhide HB).size;omega))
   clear ht5
   clear kk
   go_wp2_with fail
   go_region_law (first|fail)
   all_goals change Exit.then _ _ _ _ (Zta (w3.alloc (.cells #[.int .i64 qo,.int .i64 ql,.int .i64 qk,.int .i64 qz,.int .i64 qh,.slice qa qn qc,.string qs] 59)) q (.int .i64 2) (.int .i64 qo) (.int .i64 ql) (.int .i64 qk) (.int .i64 qz) (.int .i64 qh) (.slice qa qn qc) (.string qs))
   all_goals generalize Zta (w3.alloc (.cells #[.int .i64 qo,.int .i64 ql,.int .i64 qk,.int .i64 qz,.int .i64 qh,.slice qa qn qc,.string qs] 59)) q (.int .i64 2) (.int .i64 qo) (.int .i64 ql) (.int .i64 qk) (.int .i64 qz) (.int .i64 qh) (.slice qa qn qc) (.string qs)=w5 at*
   all_goals go_wp2_with (first
    |((with_reducible refine Zms 78 Tryz.underlying78 rfl Zd5 5 q _ ?_ (unhide HQ5) rfl ?_);(focus rfl))
    |((with_reducible refine Zfg 78 Zd5 4 37 w.heap.size _ [.int .i64 2,.int .i64 (n.id:Int),.int .i64 (n.inc:Int),.int .i64 qo,.int .i64 ql,.int .i64 qk,.int .i64 qz,.int .i64 qh,.slice qa qn qc,.string qs] ?_ ?_ (unhide HX5) rfl rfl ?_ ?_);(focus rfl);(focus rfl);(focus simp[Value.oneCell']);intro w6 hx6 ht6;have HX6:=hide hx6;have HT6:=hide ht6;clear hx6 ht6)
    |fail)
   all_goals exact bodyPost_ret (Zh9 rfl (unhide HX6) rfl) rfl ⟨⟨2,n.id,n.inc,⟨qo,ql,qk,qz,qh,⟨qa,qn,qc,qx,qs⟩⟩⟩,rfl,⟨rfl,rfl,by rw[unhide HO];rfl,by rw[unhide HO];exact unhide HP3⟩,(unhide HX5).row (unhide HR5) (by simp) (unhide HT6),Ze2 (unhide HB5) (unhide HT6) (Nat.le_refl _)⟩
end Go.Proofs.YtlhhinlghhjghaaGreatDoor
