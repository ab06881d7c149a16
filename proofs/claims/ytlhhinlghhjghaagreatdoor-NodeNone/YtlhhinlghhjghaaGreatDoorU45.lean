/-
  Contract of Node.Report; of a node that is none. Condition: the tables stand.
  The walk of NodeNone, of what awake tells (handed in as an argument).
  The pair of the laws of node: its config.
  The data of awake: what the pair's source sends.
  Rows that are true of blocks of one size, of full rank, tell these. No condition.
  Packets that are true of an object's blocks: what a decoder tells of them is that object. No condition.
  bucketlinelaw08.awake: it returns true where the table of math/bits is laid.
-/
import Derived.Test.YtlhhinlghhjghaaGreatDoorU44
import Derived.Test.YtlhhinlghhjghaaGreatDoorU41
import Derived.Test.YtlhhinlghhjghaaGreatDoorU33
import Derived.Test.YtlhhinlghhjghaaGreatDoorU42
import Derived.Test.YtlhhinlghhjghaaGreatDoorU43
import Derived.Test.YtlhhinlghhjghaaGreatDoorU16
namespace Go.Proofs.YtlhhinlghhjghaaGreatDoor
open Go.RowKit Go.Sort
set_option linter.unusedVariables false
set_option linter.unusedSimpArgs false
set_option maxRecDepth 4000
set_option maxHeartbeats 8000000
variable {ob t:ByteArray}{s:DS}{n:NDD}{a x y Z:Nat}{w:World}
def kR(s:STD):Nat:=match s.rl with
 |some r=>r.ps.length
 |none=>0
def kD(s:STD):Nat:=match s.dc with
 |some d=>d.s.L.length
 |none=>0
def rD(s:STD):Nat:=match s.dc with
 |some d=>ZcB d.s.L
 |none=>0
def dnD(s:STD):Bool:=match s.dc with
 |some d=>d.s.dn
 |none=>false
def obD(s:STD):ByteArray:=match s.dc with
 |some d=>d.s.ob
 |none=>⟨#[]⟩
theorem Zrz{B:Nat}{p:PLD}{s:STD}(h:SttAt w B p s):(Calls Tryz.prog 38 #[.pointer (ptrR s.rl)] w fun e w'=>e=.returned (.int .i64 (kR s:Nat))∧w'=w)∧(Calls Tryz.prog 40 #[.pointer (ptrR s.rl)] w fun e w'=>e=.returned (.int .i64 (kR s:Nat))∧w'=w):=by
 unfold kR
 cases hl:s.rl with
 |none=>exact⟨Zic w,Zqv w⟩
 |some r=>exact⟨Zd6 _ _ _ _ _ _ _ _ w (h.rl r hl),Zpk _ _ _ _ _ _ _ _ w (h.rl r hl)⟩
theorem Zja{B:Nat}{p:PLD}{s:STD}(h:SttAt w B p s)(ht:Tab w):(Calls Tryz.prog 39 #[.pointer (ptrC s.dc)] w fun e w'=>e=.returned (.int .i64 (kD s:Nat))∧w'=w)∧(Calls Tryz.prog 41 #[.pointer (ptrC s.dc)] w fun e w'=>e=.returned (.int .i64 (rD s:Nat))∧Below w.heap.size w w')∧
  (Calls Tryz.prog 44 #[.pointer (ptrC s.dc)] w fun e w'=>e=.returned (.bool (dnD s))∧w'=w)∧(Calls Tryz.prog 45 #[.pointer (ptrC s.dc)] w fun e w'=>e=.returned (.string (obD s))∧Below w.heap.size w w'):=by
 unfold kD rD dnD obD
 cases hl:s.dc with
 |none=>exact⟨Zp8 w,(ZqA w).mono fun e w' ⟨he,hw⟩=>⟨he,by rw[hw];exact Below.refl _ _⟩,Zpg w,(Zuh w).mono fun e w' ⟨he,hw⟩=>⟨he,by rw[hw];exact Below.refl _ _⟩⟩
 |some d=>exact⟨ZoE _ _ _ _ _ _ _ w (h.dc d hl),ZoR _ _ _ _ _ _ _ w ht (h.dc d hl),Zpq _ _ _ _ _ _ _ w (h.dc d hl),ZqP _ _ _ _ _ _ _ w (h.dc d hl)⟩
def repC(n:NDD)(now:Int):List Value:=[.int .i64 (n.inc:Int),.int .i64 ((kR n.s+kD n.s:Nat):Int),.int .i64 ((kR n.s+rD n.s:Nat):Int),.int .i64 (Zfa n.s.ls n.s.ls.length:Nat),.int .i64 ((allZ (ZcY n.p.timeout) n.s.Z now).length:Nat),.bool (dnD n.s),.string (obD n.s)]
theorem Zgt:(Tryz.prog.info? 40).map (·.size)=some 7:=by kernel_rfl
theorem Zhk{tmps:Array Value}{W:World}{g:Nat}{cs:List Value}(h2:tmps.getD 4 undef=.pointer (some ⟨g,0,none⟩))(hq:BkA 40 W g cs)(hl:cs.length=7):(results Tryz.f15 tmps).run Tryz.prog W=.ok (.agg cs.toArray) W:=by
 have hld:=hq.load Tryz.underlying40 rfl Zgt hl
 have h2':tmps[4]?.getD undef=.pointer (some ⟨g,0,none⟩):=by simpa using h2
 simp[results,Tryz.results15,asAddr,h2',hld]
theorem Zsz(a:Value)(w:World):Calls Tryz.prog 15 #[.pointer none,a] w fun e w'=>e=.returned (.agg #[.int .i64 0,.int .i64 0,.int .i64 0,.int .i64 0,.int .i64 0,.bool false,.string ⟨#[]⟩])∧Below w.heap.size w w':=by
 have X:=hide (Zag 40 w [.int .i64 0,.int .i64 0,.int .i64 0,.int .i64 0,.int .i64 0,.bool false,.string ⟨#[]⟩])
 go_enter Tryz.func15,Tryz.ntmps15
 go_wp2
 exact bodyPost_ret (Zhk rfl (unhide X) rfl) rfl ⟨rfl,alloc_low _ _⟩
theorem Zkz(g B:Nat)(n:NDD)(now:Int)(w:World)(h:NdAt w g B n)(ht:Tab w):Calls Tryz.prog 15 #[.pointer (some ⟨g,0,none⟩),.int .i64 now] w fun e w'=>e=.returned (.agg (repC n now).toArray)∧Below w.heap.size w w':=by
 have c1:=h.blk.at 1 rfl
 have c11:=h.blk.at 11 (show(ndC n)[11]? =some n.s.lv from rfl)
 have c12:=h.blk.at 12 rfl
 have c13:=h.blk.at 13 rfl
 have c14:=h.blk.at 14 rfl
 have c15:=h.blk.at 15 rfl
 have hgl:=h.blk.lt
 have hinc:=h.num.1
 have h8:n.s.ls.length≤8:=by have:=h.num;omega
 have hwi:IntKind.i64.wrap (n.inc:Int)=(n.inc:Int):=by rw[IntKind.wrap_i64];omega
 have hkR:kR n.s≤256:=by
  unfold kR
  cases hl:n.s.rl with
  |none=>exact Nat.zero_le _
  |some r=>exact Nat.le_trans (by have:=(h.st.rl r hl).buf.inv.le;rwa[List.length_map]at this) (h.st.rl r hl).buf.most
 have hkD:kD n.s≤256∧rD n.s≤256:=by
  unfold kD rD
  cases hl:n.s.dc with
  |none=>exact⟨Nat.zero_le _,Nat.zero_le _⟩
  |some d=>
   have h1:=(h.st.dc d hl).len
   have h2:=Zvq d.s.L
   exact⟨by show d.s.L.length≤256;omega,by show ZcB d.s.L≤256;omega⟩
 have w1:IntKind.i64.wrap ((kR n.s:Int)+(kD n.s:Int))=((kR n.s+kD n.s:Nat):Int):=by rw[IntKind.wrap_i64];omega
 have w2:IntKind.i64.wrap ((kR n.s:Int)+(rD n.s:Int))=((kR n.s+rD n.s:Nat):Int):=by rw[IntKind.wrap_i64];omega
 obtain⟨al,cl,hlv⟩:=h.st.lks.len
 obtain⟨W,hW,X,Y,hB⟩:∃W,(w.alloc (.cells #[.int .i64 0,.int .i64 0,.int .i64 0,.int .i64 0,.int .i64 0,.bool false,.string ⟨#[]⟩] 40)).alloc (.cells #[.slice al n.s.ls.length cl,.pointer (some ⟨n.s.gm,0,none⟩),.pointer (some ⟨n.s.gc,0,none⟩),.pointer (ptrR n.s.rl),.pointer (ptrC n.s.dc)] 103)=W∧BkA 40 W w.heap.size [.int .i64 0,.int .i64 0,.int .i64 0,.int .i64 0,.int .i64 0,.bool false,.string ⟨#[]⟩]∧BkA 103 W (w.heap.size+1) [.slice al n.s.ls.length cl,.pointer (some ⟨n.s.gm,0,none⟩),.pointer (some ⟨n.s.gc,0,none⟩),.pointer (ptrR n.s.rl),.pointer (ptrC n.s.dc)]∧Below w.heap.size w W:=by
  refine⟨_,rfl,(Zag 40 w [.int .i64 0,.int .i64 0,.int .i64 0,.int .i64 0,.int .i64 0,.bool false,.string ⟨#[]⟩]).below (alloc_low _ _),?_,below0 (alloc_low _ _) (alloc_low _ _)⟩
  have:=Zag 103 (w.alloc (.cells #[.int .i64 0,.int .i64 0,.int .i64 0,.int .i64 0,.int .i64 0,.bool false,.string ⟨#[]⟩] 40)) [.slice al n.s.ls.length cl,.pointer (some ⟨n.s.gm,0,none⟩),.pointer (some ⟨n.s.gc,0,none⟩),.pointer (ptrR n.s.rl),.pointer (ptrC n.s.dc)]
  rwa[Zab]at this
 have hN:=h.below hB
 have HSF:=hide (fun wx (hb:Below W.heap.size W wx)=>(show(wx.cell? ⟨g,1,none⟩=some (.int .u32 (n.inc:Int))∧wx.cell? ⟨w.heap.size+1,0,none⟩=some (.slice al n.s.ls.length cl)∧wx.cell? ⟨w.heap.size+1,1,none⟩=some (.pointer (some ⟨n.s.gm,0,none⟩))∧wx.cell? ⟨w.heap.size+1,2,none⟩=some (.pointer (some ⟨n.s.gc,0,none⟩))∧wx.cell? ⟨w.heap.size+1,3,none⟩=some (.pointer (ptrR n.s.rl))∧wx.cell? ⟨w.heap.size+1,4,none⟩=some (.pointer (ptrC n.s.dc))) from⟨(hN.below hb).blk.at 1 rfl,(Y.below hb).at 0 rfl,(Y.below hb).at 1 rfl,(Y.below hb).at 2 rfl,(Y.below hb).at 3 rfl,(Y.below hb).at 4 rfl⟩))
 have HRK:=hide (fun wx (hb:Below W.heap.size W wx)=>((Zrz (hN.st.below hb)).1.mono (R':=fun e w'=>e=.returned (.int .i64 (kR n.s:Nat))∧Below W.heap.size W w') fun e w' ⟨he,hw⟩=>⟨he,by rw[hw];exact hb⟩))
 have HRR:=hide (fun wx (hb:Below W.heap.size W wx)=>((Zrz (hN.st.below hb)).2.mono (R':=fun e w'=>e=.returned (.int .i64 (kR n.s:Nat))∧Below W.heap.size W w') fun e w' ⟨he,hw⟩=>⟨he,by rw[hw];exact hb⟩))
 have HDK:=hide (fun wx (hb:Below W.heap.size W wx)=>((Zja (hN.st.below hb) ((ht.below hB).below hb)).1.mono (R':=fun e w'=>e=.returned (.int .i64 (kD n.s:Nat))∧Below W.heap.size W w') fun e w' ⟨he,hw⟩=>⟨he,by rw[hw];exact hb⟩))
 have HDR:=hide (fun wx (hb:Below W.heap.size W wx)=>((Zja (hN.st.below hb) ((ht.below hB).below hb)).2.1.mono (R':=fun e w'=>e=.returned (.int .i64 (rD n.s:Nat))∧Below W.heap.size W w') fun e w' ⟨he,hw⟩=>⟨he,below0 hb hw⟩))
 have HDD:=hide (fun wx (hb:Below W.heap.size W wx)=>((Zja (hN.st.below hb) ((ht.below hB).below hb)).2.2.1.mono (R':=fun e w'=>e=.returned (.bool (dnD n.s))∧Below W.heap.size W w') fun e w' ⟨he,hw⟩=>⟨he,by rw[hw];exact hb⟩))
 have HDO:=hide (fun wx (hb:Below W.heap.size W wx)=>((Zja (hN.st.below hb) ((ht.below hB).below hb)).2.2.2.mono (R':=fun e w'=>e=.returned (.string (obD n.s))∧Below W.heap.size W w') fun e w' ⟨he,hw⟩=>⟨he,below0 hb hw⟩))
 have HQU:=hide (fun wx (hb:Below W.heap.size W wx)=>((Zqc B n.p n.s wx (hN.st.below hb) h8).mono (R':=fun e w'=>e=.returned (.int .i64 (Zfa n.s.ls n.s.ls.length:Nat))∧Below W.heap.size W w') fun e w' ⟨he,hw⟩=>⟨he,below0 hb hw⟩))
 rw[hlv]at HQU c11
 have HAL:=hide (fun wx (hb:Below W.heap.size W wx)=>((ZuA n.s.gm (ZcY n.p.timeout) n.s.Z now wx (hN.st.mem.below hb)).mono (R':=fun e w'=> ∃a c,e=.returned (.slice a (allZ (ZcY n.p.timeout) n.s.Z now).length c)∧Below W.heap.size W w') fun e w' ⟨o,he,ho,hw⟩=>by obtain⟨a,c,hv, -⟩:=ho.ints;exact⟨a,c,by rw[he,hv],below0 hb hw⟩))
 have HX:=hide X
 have HBW:=hide hB
 obtain⟨s1,s2,s3,s4,s5,s6⟩:=unhide HSF W (Below.refl _ _)
 have hne:w.heap.size≠w.heap.size+1:=by omega
 have hgn:w.heap.size≠g:=by omega
 clear h ht hN Y X hB h8 hkR hkD hinc hlv
 unfold repC
 generalize kR n.s=kr at*
 generalize kD n.s=kd at*
 generalize rD n.s=rd at*
 generalize dnD n.s=dn at*
 generalize obD n.s=ob at*
 generalize hq:Zfa n.s.ls n.s.ls.length=qq at*
 clear hq
 generalize (allZ (ZcY n.p.timeout) n.s.Z now).length=kn at*
 go_enter Tryz.func15,Tryz.ntmps15
 go_wp2_with fail
 clear hW c1 c11 c12 c13 c14 c15
 generalize w.heap.size+1=q at*
 refine wp_region_held_drew (S:=fun w'=>w'.cell? ⟨g,1,none⟩=some (.int .u32 (n.inc:Int))∧w'.cell? ⟨q,0,none⟩=some (.slice al n.s.ls.length cl)∧w'.cell? ⟨q,1,none⟩=some (.pointer (some ⟨n.s.gm,0,none⟩))∧w'.cell? ⟨q,2,none⟩=some (.pointer (some ⟨n.s.gc,0,none⟩))∧w'.cell? ⟨q,3,none⟩=some (.pointer (ptrR n.s.rl))∧w'.cell? ⟨q,4,none⟩=some (.pointer (ptrC n.s.dc))) (by kernel_rfl) ?_ (fun hHeld=>?_)
 ·go_keep
 refine wpAnyH_take (i:=0) (v:=?_) rfl (by kernel_rfl) (by kernel_rfl) (by kernel_rfl) (fun _ _ _ h=>h) (Or.inl ⟨by rfl,?f0⟩) (by assumption) ?_
 case f0=>(intro w hSw;(try dsimp only at hSw);go_simp;try with_reducible rfl)
 refine wpAnyH_take (i:=1) (v:=?_) rfl (by kernel_rfl) (by kernel_rfl) (by kernel_rfl) (fun _ _ _ h=>h) (Or.inl ⟨by rfl,?f1⟩) (by assumption) ?_
 case f1=>(intro w hSw;(try dsimp only at hSw);go_simp;try with_reducible rfl)
 refine wpAnyH_take (i:=2) (v:=?_) rfl (by kernel_rfl) (by kernel_rfl) (by kernel_rfl) (fun _ _ _ h=>h) (Or.inl ⟨by rfl,?f2⟩) (by assumption) ?_
 case f2=>(intro w hSw;(try dsimp only at hSw);go_simp;try with_reducible rfl)
 refine wpAnyH_take (i:=3) (v:=?_) rfl (by kernel_rfl) (by kernel_rfl) (by kernel_rfl) (fun _ _ _ h=>h) (Or.inl ⟨by rfl,?f3⟩) (by assumption) ?_
 case f3=>(intro w hSw;(try dsimp only at hSw);go_simp;try with_reducible rfl)
 refine wpAnyH_take (i:=4) (v:=?_) rfl (by kernel_rfl) (by kernel_rfl) (by kernel_rfl) (fun _ _ _ h=>h) (Or.inl ⟨by rfl,?f4⟩) (by assumption) ?_
 case f4=>(intro w hSw;(try dsimp only at hSw);go_simp;try with_reducible rfl)
 refine wpAnyH_take (i:=5) (v:=?_) rfl (by kernel_rfl) (by kernel_rfl) (by kernel_rfl) (fun _ _ _ h=>h) (Or.inl ⟨by rfl,?f5⟩) (by assumption) ?_
 case f5=>(intro w hSw;(try dsimp only at hSw);go_simp;try with_reducible rfl)
 refine wpAnyH_take (i:=6) (v:=?_) rfl (by kernel_rfl) (by kernel_rfl) (by kernel_rfl) (fun _ _ _ h=>h) (Or.inl ⟨by rfl,?f6⟩) (by assumption) ?_
 case f6=>(intro w hSw;(try dsimp only at hSw);go_simp;try with_reducible rfl)
 refine wpAnyH_take (i:=8) (v:=?_) rfl (by kernel_rfl) (by kernel_rfl) (by kernel_rfl) (fun _ _ _ h=>h) (Or.inl ⟨by rfl,?f8⟩) (by assumption) ?_
 case f8=>(intro w hSw;(try dsimp only at hSw);go_simp;try with_reducible rfl)
 refine wpAnyH_take (i:=9) (v:=?_) rfl (by kernel_rfl) (by kernel_rfl) (by kernel_rfl) (fun _ _ _ h=>h) (Or.inl ⟨by rfl,?f9⟩) (by assumption) ?_
 case f9=>(intro w hSw;(try dsimp only at hSw);go_simp;try with_reducible rfl)
 refine wpAnyH_take (i:=12) (v:=?_) rfl (by kernel_rfl) (by kernel_rfl) (by kernel_rfl) (fun _ _ _ h=>h) (Or.inl ⟨by rfl,?f12⟩) (by assumption) ?_
 case f12=>(intro w hSw;(try dsimp only at hSw);go_simp;try with_reducible rfl)
 refine wpAnyH_take (i:=13) (v:=?_) rfl (by kernel_rfl) (by kernel_rfl) (by kernel_rfl) (fun _ _ _ h=>h) (Or.inl ⟨by rfl,?f13⟩) (by assumption) ?_
 case f13=>(intro w hSw;(try dsimp only at hSw);go_simp;try with_reducible rfl)
 refine wpAnyH_take (i:=15) (v:=?_) rfl (by kernel_rfl) (by kernel_rfl) (by kernel_rfl) (fun _ _ _ h=>h) (Or.inl ⟨by rfl,?f15⟩) (by assumption) ?_
 case f15=>(intro w hSw;(try dsimp only at hSw);go_simp;try with_reducible rfl)
 refine wpAnyH_take (i:=16) (v:=?_) rfl (by kernel_rfl) (by kernel_rfl) (by kernel_rfl) (fun _ _ _ h=>h) (Or.inl ⟨by rfl,?f16⟩) (by assumption) ?_
 case f16=>(intro w hSw;(try dsimp only at hSw);go_simp;try with_reducible rfl)
 refine wpAnyH_take (i:=19) (v:=?_) rfl (by kernel_rfl) (by kernel_rfl) (by kernel_rfl) (fun _ _ _ h=>h) (Or.inl ⟨by rfl,?f19⟩) (by assumption) ?_
 case f19=>(intro w hSw;(try dsimp only at hSw);go_simp;try with_reducible rfl)
 refine wpAnyH_take (i:=21) (v:=?_) rfl (by kernel_rfl) (by kernel_rfl) (by kernel_rfl) (fun _ _ _ h=>h) (Or.inl ⟨by rfl,?f21⟩) (by assumption) ?_
 case f21=>(intro w hSw;(try dsimp only at hSw);go_simp;try with_reducible rfl)
 refine wpAnyH_take (i:=22) (v:=?_) rfl (by kernel_rfl) (by kernel_rfl) (by kernel_rfl) (fun _ _ _ h=>h) (Or.inl ⟨by rfl,?f22⟩) (by assumption) ?_
 case f22=>(intro w hSw;(try dsimp only at hSw);go_simp;try with_reducible rfl)
 refine wpAnyH_take (i:=23) (v:=?_) rfl (by kernel_rfl) (by kernel_rfl) (by kernel_rfl) (fun _ _ _ h=>h) (Or.inl ⟨by rfl,?f23⟩) (by assumption) ?_
 case f23=>(intro w hSw;(try dsimp only at hSw);go_simp;try with_reducible rfl)
 refine wpAnyH_take (i:=26) (v:=?_) rfl (by kernel_rfl) (by kernel_rfl) (by kernel_rfl) (fun _ _ _ h=>h) (Or.inl ⟨by rfl,?f26⟩) (by assumption) ?_
 case f26=>(intro w hSw;(try dsimp only at hSw);go_simp;try with_reducible rfl)
 refine wpAnyH_take (i:=27) (v:=?_) rfl (by kernel_rfl) (by kernel_rfl) (by kernel_rfl) (fun _ _ _ h=>h) (Or.inl ⟨by rfl,?f27⟩) (by assumption) ?_
 case f27=>(intro w hSw;(try dsimp only at hSw);go_simp;try with_reducible rfl)
 refine wpAnyH_take (i:=29) (v:=?_) rfl (by kernel_rfl) (by kernel_rfl) (by kernel_rfl) (fun _ _ _ h=>h) (Or.inl ⟨by rfl,?f29⟩) (by assumption) ?_
 case f29=>(intro w hSw;(try dsimp only at hSw);go_simp;try with_reducible rfl)
 refine wpAnyH_take (i:=30) (v:=?_) rfl (by kernel_rfl) (by kernel_rfl) (by kernel_rfl) (fun _ _ _ h=>h) (Or.inl ⟨by rfl,?f30⟩) (by assumption) ?_
 case f30=>(intro w hSw;(try dsimp only at hSw);go_simp;try with_reducible rfl)
 refine wpAnyH_ready (rs:=[7]) (by kernel_rfl) (by simp) ?_
 refine AllReadyH.cons rfl (fun K hK=>?_) AllReadyH.nil
 go_simp
 refine(unhide HRK _ ((Below.refl _ _).drew)).mono ?_
 rintro e w1 ⟨rfl,d1⟩
 refine hK.out _ _ (unhide HSF w1 d1) (fun hHeld=>?_)
 clear hK K
 refine wpAnyH_ready (rs:=[10]) (by kernel_rfl) (by simp) ?_
 refine AllReadyH.cons rfl (fun K hK=>?_) AllReadyH.nil
 go_simp
 refine(unhide HDK _ d1).mono ?_
 rintro e w2 ⟨rfl,d2⟩
 refine hK.out _ _ (unhide HSF w2 d2) (fun hHeld=>?_)
 clear hK K
 refine wpAnyH_take (i:=11) (v:=?_) rfl (by kernel_rfl) (by kernel_rfl) (by kernel_rfl) (fun _ _ _ h=>h) (Or.inl ⟨by rfl,?f11⟩) (by assumption) ?_
 case f11=>(intro w hSw;(try dsimp only at hSw);go_simp;try with_reducible rfl)
 refine wpAnyH_ready (rs:=[14]) (by kernel_rfl) (by simp) ?_
 refine AllReadyH.cons rfl (fun K hK=>?_) AllReadyH.nil
 go_simp
 refine(unhide HRR _ d2).mono ?_
 rintro e w3 ⟨rfl,d3⟩
 refine hK.out _ _ (unhide HSF w3 d3) (fun hHeld=>?_)
 clear hK K
 refine wpAnyH_ready (rs:=[17]) (by kernel_rfl) (by simp) ?_
 refine AllReadyH.cons rfl (fun K hK=>?_) AllReadyH.nil
 go_simp
 refine(unhide HDR _ d3).mono ?_
 rintro e w4 ⟨rfl,d4⟩
 refine hK.out _ _ (unhide HSF w4 d4) (fun hHeld=>?_)
 clear hK K
 refine wpAnyH_take (i:=18) (v:=?_) rfl (by kernel_rfl) (by kernel_rfl) (by kernel_rfl) (fun _ _ _ h=>h) (Or.inl ⟨by rfl,?f18⟩) (by assumption) ?_
 case f18=>(intro w hSw;(try dsimp only at hSw);go_simp;try with_reducible rfl)
 refine wpAnyH_ready (rs:=[20]) (by kernel_rfl) (by simp) ?_
 refine AllReadyH.cons rfl (fun K hK=>?_) AllReadyH.nil
 go_simp
 refine(unhide HQU _ d4).mono ?_
 rintro e w5 ⟨rfl,d5⟩
 refine hK.out _ _ (unhide HSF w5 d5) (fun hHeld=>?_)
 clear hK K
 refine wpAnyH_ready (rs:=[24]) (by kernel_rfl) (by simp) ?_
 refine AllReadyH.cons rfl (fun K hK=>?_) AllReadyH.nil
 go_simp
 refine(unhide HAL _ d5).mono ?_
 rintro e w6 ⟨a6,c6,rfl,d6⟩
 refine hK.out _ _ (unhide HSF w6 d6) (fun hHeld=>?_)
 clear hK K
 refine wpAnyH_take (i:=25) (v:=?_) rfl (by kernel_rfl) (by kernel_rfl) (by kernel_rfl) (fun _ _ _ h=>h) (Or.inl ⟨by rfl,?f25⟩) (by assumption) ?_
 case f25=>(intro w hSw;(try dsimp only at hSw);go_simp;try with_reducible rfl)
 refine wpAnyH_ready (rs:=[28]) (by kernel_rfl) (by simp) ?_
 refine AllReadyH.cons rfl (fun K hK=>?_) AllReadyH.nil
 go_simp
 refine(unhide HDD _ d6).mono ?_
 rintro e w7 ⟨rfl,d7⟩
 refine hK.out _ _ (unhide HSF w7 d7) (fun hHeld=>?_)
 clear hK K
 refine wpAnyH_ready (rs:=[31]) (by kernel_rfl) (by simp) ?_
 refine AllReadyH.cons rfl (fun K hK=>?_) AllReadyH.nil
 go_simp
 refine(unhide HDO _ d7).mono ?_
 rintro e w8 ⟨rfl,d8⟩
 refine hK.out _ _ (unhide HSF w8 d8) (fun hHeld=>?_)
 clear hK K
 refine wpAnyH_take (i:=32) (v:=?_) rfl (by kernel_rfl) (by kernel_rfl) (by kernel_rfl) (fun _ _ _ h=>h) (Or.inl ⟨by rfl,?f32⟩) (by assumption) ?_
 case f32=>(intro w hSw;(try dsimp only at hSw);go_simp;try with_reducible rfl)
 have X8:=(unhide HX).below d8
 refine wpAnyH_ready (rs:=[33]) (by kernel_rfl) (by simp) ?_
 refine AllReadyH.cons rfl (fun K hK=>?_) AllReadyH.nil
 refine Zih rfl 40 40 Zgt (.tmp 4) (.tmp 45) rfl w.heap.size 0 _ [.int .i64 (n.inc:Int),.int .i64 ((kr+kd:Nat):Int),.int .i64 ((kr+rd:Nat):Int),.int .i64 (qq:Int),.int .i64 (kn:Int),.bool dn,.string ob] rfl rfl X8 rfl (show 0+7≤7 by decide) (by simp[Value.oneCell']) fun w9 hx9 ht9=>?_
 obtain⟨y1,y2,y3,y4,y5,y6⟩:=unhide HSF w8 d8
 refine hK.out _ _ ⟨ht9.cell y1 (Ne.symm hgn),ht9.cell y2 (Ne.symm hne),ht9.cell y3 (Ne.symm hne),ht9.cell y4 (Ne.symm hne),ht9.cell y5 (Ne.symm hne),ht9.cell y6 (Ne.symm hne)⟩ (fun hHeld=>?_)
 clear hK K
 refine wpAnyH_done (by kernel_rfl) ?_ _
 go_wp2
 exact bodyPost_ret (Zhk rfl hx9 rfl) rfl ⟨rfl,(below0 (unhide HBW) d8).trans (ht9.below (below0 (unhide HBW) d8).size fun j hj e=>by omega)⟩
theorem Zmk(f:CFV)(s:ByteArray)(now:Int)(w:World)(hf:CfIn w f)(HA:Hid (∀wx,Below w.heap.size w wx→Calls Tryz.prog 9 #[] wx fun e w'=>e=.returned (.bool true)∧Below wx.heap.size wx w')):
  Calls Tryz.prog 5 #[f.val,.string s,.int .i64 now] w fun e w'=>e=.returned (.bool true)∧Below w.heap.size w w':=by
 have hl:=hf.len
 have ho:=hf.obj
 have HN1:=hide (fun wx=>Zn3 f (-1) wx (.inl (by decide)))
 have HN2:=hide (fun wx=>Zn3 f (f.n:Int) wx (.inr (Int.le_refl _)))
 clear hf
 obtain⟨a,n,c,ds,obj,size,spread,buffer,queue,cache,rate,timeout,target⟩:=f
 simp only[CFV.val]at hl ho HN1 HN2⊢
 have X:=hide (Zag 25 w [.slice a n c,.string obj,.int .i64 size,.int .i64 spread,.int .i64 buffer,.int .i64 queue,.int .i64 cache,.float .f64 rate,.int .i64 timeout,.int .i64 target])
 have HB:=hide (alloc_low w (.cells #[.slice a n c,.string obj,.int .i64 size,.int .i64 spread,.int .i64 buffer,.int .i64 queue,.int .i64 cache,.float .f64 rate,.int .i64 timeout,.int .i64 target] 25))
 by_cases h0:(10000:Int)<(obj.size:Int)
 ·go_enter Tryz.func5,Tryz.ntmps5
  go_wp2_with (first
   |(go_at_call 9;refine(unhide HA _ (unhide HB)).mono ?_;rintro e w1 ⟨rfl,hb1⟩;have HB1:=hide (below0 (unhide HB) hb1);clear hb1)
   |fail)
  go_ret
  exact⟨rfl,unhide HB1⟩
 by_cases h1:(100:Int)<(n:Int)
 ·go_enter Tryz.func5,Tryz.ntmps5
  go_wp2_with (first
   |(go_at_call 9;refine(unhide HA _ (unhide HB)).mono ?_;rintro e w1 ⟨rfl,hb1⟩;have HB1:=hide (below0 (unhide HB) hb1);clear hb1)
   |fail)
  go_ret
  exact⟨rfl,unhide HB1⟩
 go_enter Tryz.func5,Tryz.ntmps5
 go_wp2_with (first
  |(go_at_call 10;refine(unhide HN1 _).mono ?_;rintro e w1 ⟨rfl,hb1⟩;have HB1:=hide hb1;have HX1:=hide ((unhide X).below hb1);have HBB:=hide (below0 (unhide HB) hb1);have x0:=(unhide HX1).at 0 rfl;have x1:=(unhide HX1).at 1 rfl;have x2:=(unhide HX1).at 2 rfl;have x3:=(unhide HX1).at 3 rfl;have x4:=(unhide HX1).at 4 rfl;have x5:=(unhide HX1).at 5 rfl;have x6:=(unhide HX1).at 6 rfl;have x7:=(unhide HX1).at 7 rfl;have x8:=(unhide HX1).at 8 rfl;have x9:=(unhide HX1).at 9 rfl;clear hb1 HN1)
  |(go_at_call 10;refine(unhide HN2 _).mono ?_;rintro e w2 ⟨rfl,hb2⟩;have HB2:=hide (below0 (unhide HBB) hb2);clear hb2 HN2 x0 x1 x2 x3 x4 x5 x6 x7 x8 x9)
  |(go_at_call 12;refine(ZrV _ _ _).mono ?_;rintro e w3 ⟨rfl,hw3⟩;obtain rfl:=hw3.symm;clear hw3)
  |(go_at_call 13;refine(Zo6 _ _).mono ?_;rintro e w3 ⟨rfl,hw3⟩;obtain rfl:=hw3.symm;clear hw3)
  |(go_at_call 14;refine(ZlE _).mono ?_;rintro e w3 ⟨rfl,hw3⟩;obtain rfl:=hw3.symm;clear hw3)
  |(go_at_call 11;refine(Zp3 _ _ _).mono ?_;rintro e w3 ⟨rfl,hw3⟩;obtain rfl:=hw3.symm;clear hw3)
  |(go_at_call 21;refine(Zqa _).mono ?_;rintro e w3 ⟨rfl,hw3⟩;obtain rfl:=hw3.symm;clear hw3)
  |(go_at_call 15;refine(Zsz _ _).mono ?_;rintro e w3 ⟨rfl,hb3⟩;have HB3:=hide (below0 (unhide HB2) hb3);clear hb3)
  |(go_at_call 9;refine(unhide HA _ (unhide HB3)).mono ?_;rintro e w4 ⟨rfl,hb4⟩;have HB4:=hide (below0 (unhide HB3) hb4);clear hb4)
  |fail)
 go_ret
 exact⟨rfl,unhide HB4⟩
def Zdc(a x y:Nat):CFV:=⟨some ⟨a,0,none⟩,2,2,[⟨1,some ⟨x,0,none⟩,1,1,[1]⟩,⟨3,some ⟨y,0,none⟩,1,1,[0]⟩],⟨#[97,98]⟩,1,0,4,4,4,4607182418800017408,5,1⟩
theorem ZxL(h:NdsAt w (some ⟨a,0,none⟩) 2 (Zdc a x y).ds):NewC w (Zdc a x y) 0∧NewC w (Zdc a x y) 1:=
 ⟨⟨h,show 0<2 by decide,by decide,.inl rfl,show 1≤8 by decide,(fun e=>by have e':some (⟨x,0,none⟩:Addr)=none:=e;cases e'),show 4607182418800017408<18446744073709551616 by decide,show(1:Int)≤1∧(1:Int)≤64∧(0:Int)≤0∧kc 2 1≤128 by decide⟩,⟨h,show 1<2 by decide,by decide,.inr (.inr rfl),show 1≤8 by decide,(fun e=>by have e':some (⟨y,0,none⟩:Addr)=none:=e;cases e'),show 4607182418800017408<18446744073709551616 by decide,show(1:Int)≤1∧(1:Int)≤64∧(0:Int)≤0∧kc 2 1≤128 by decide⟩⟩
theorem Zn2:(Tryz.prog.info? 25).map (·.size)=some 10:=by kernel_rfl
theorem Zl6{tmps:Array Value}{W:World}{g:Nat}{cs:List Value}(h2:tmps.getD 0 undef=.pointer (some ⟨g,0,none⟩))(hq:BkA 25 W g cs)(hl:cs.length=10):(results Tryz.f26 tmps).run Tryz.prog W=.ok (.agg cs.toArray) W:=by
 have hld:=hq.load Tryz.underlying25 rfl Zn2 hl
 have h2':tmps[0]?.getD undef=.pointer (some ⟨g,0,none⟩):=by simpa using h2
 simp[results,Tryz.results26,asAddr,h2',hld]
theorem Znt(w:World):Calls Tryz.prog 26 #[] w fun e w'=> ∃a x y,e=.returned (Zdc a x y).val∧NdsAt w' (some ⟨a,0,none⟩) 2 (Zdc a x y).ds∧Below w.heap.size w w':=by
 have HX:=hide (show BkA 25 ((((w.alloc (.cells #[.slice none 0 0,.string ⟨#[]⟩,.int .i64 0,.int .i64 0,.int .i64 0,.int .i64 0,.int .i64 0,.float .f64 0,.int .i64 0,.int .i64 0] 25)).alloc (.cells #[.int .i64 1] 3)).alloc (.cells #[.int .i64 0] 3)).alloc (.cells #[.int .i64 1,.slice (some ⟨w.heap.size+1,0,none⟩) 1 1,.int .i64 3,.slice (some ⟨w.heap.size+1+1,0,none⟩) 1 1] 85)) w.heap.size [.slice none 0 0,.string ⟨#[]⟩,.int .i64 0,.int .i64 0,.int .i64 0,.int .i64 0,.int .i64 0,.float .f64 0,.int .i64 0,.int .i64 0] from(((Zag 25 w [.slice none 0 0,.string ⟨#[]⟩,.int .i64 0,.int .i64 0,.int .i64 0,.int .i64 0,.int .i64 0,.float .f64 0,.int .i64 0,.int .i64 0]).below (alloc_low _ _)).below (alloc_low _ _)).below (alloc_low _ _))
 go_enter Tryz.func26,Tryz.ntmps26
 go_wp2_with (first
  |((with_reducible refine Zh4 25 25 Zn2 0 6 w.heap.size 0 _ [.slice (some ⟨w.heap.size+1+1+1,0,none⟩) 2 2,.string ⟨#[97,98]⟩,.int .i64 1,.int .i64 0,.int .i64 4,.int .i64 4,.int .i64 4,.float .f64 4607182418800017408,.int .i64 5,.int .i64 1] ?_ ?_ (unhide HX) rfl ?_ ?_ ?_);(focus rfl);(focus rfl);(focus exact(show 0+10≤10 by decide));(focus exact(by simp[Value.oneCell']));intro w4 hx4 ht4;have HX4:=hide hx4;have HT4:=hide ht4;clear hx4 ht4)
  |fail)
 have ht4:=unhide HT4
 refine bodyPost_ret (Zl6 rfl (unhide HX4) rfl) rfl ⟨w.heap.size+1+1+1,w.heap.size+1,w.heap.size+1+1,rfl,?_,?_⟩
 ·have A:=((Zag 3 (w.alloc (.cells #[.slice none 0 0,.string ⟨#[]⟩,.int .i64 0,.int .i64 0,.int .i64 0,.int .i64 0,.int .i64 0,.float .f64 0,.int .i64 0,.int .i64 0] 25)) [.int .i64 1]).below (alloc_low _ (.cells #[.int .i64 0] 3))).below (alloc_low _ (.cells #[.int .i64 1,.slice (some ⟨w.heap.size+1,0,none⟩) 1 1,.int .i64 3,.slice (some ⟨w.heap.size+1+1,0,none⟩) 1 1] 85))
  have B:=(Zag 3 ((w.alloc (.cells #[.slice none 0 0,.string ⟨#[]⟩,.int .i64 0,.int .i64 0,.int .i64 0,.int .i64 0,.int .i64 0,.float .f64 0,.int .i64 0,.int .i64 0] 25)).alloc (.cells #[.int .i64 1] 3)) [.int .i64 0]).below (alloc_low _ (.cells #[.int .i64 1,.slice (some ⟨w.heap.size+1,0,none⟩) 1 1,.int .i64 3,.slice (some ⟨w.heap.size+1+1,0,none⟩) 1 1] 85))
  have C:=Zag 85 (((w.alloc (.cells #[.slice none 0 0,.string ⟨#[]⟩,.int .i64 0,.int .i64 0,.int .i64 0,.int .i64 0,.int .i64 0,.float .f64 0,.int .i64 0,.int .i64 0] 25)).alloc (.cells #[.int .i64 1] 3)).alloc (.cells #[.int .i64 0] 3)) [.int .i64 1,.slice (some ⟨w.heap.size+1,0,none⟩) 1 1,.int .i64 3,.slice (some ⟨w.heap.size+1+1,0,none⟩) 1 1]
  simp only[Zab]at A B C
  have n1:¬(w.heap.size+1=w.heap.size):=by omega
  have n2:¬(w.heap.size+1+1=w.heap.size):=by omega
  have n3:¬(w.heap.size+1+1+1=w.heap.size):=by omega
  refine⟨rfl,fun i hi=>?_,.inr ⟨_,0,rfl,fun i hi=>?_⟩⟩
  ·obtain rfl|rfl:i=0∨i=1:=by omega
   ·exact⟨rfl,.inr ⟨_,0,rfl,fun j hj=>by
     have hj':j<1:=hj
     obtain rfl:j=0:=by omega
     exact ht4.cell (A.at 0 rfl) n1⟩⟩
   ·exact⟨rfl,.inr ⟨_,0,rfl,fun j hj=>by
     have hj':j<1:=hj
     obtain rfl:j=0:=by omega
     exact ht4.cell (B.at 0 rfl) n2⟩⟩
  ·obtain rfl|rfl:i=0∨i=1:=by omega
   ·exact⟨ht4.cell (C.at 0 rfl) n3,ht4.cell (C.at 1 rfl) n3⟩
   ·exact⟨ht4.cell (C.at 2 rfl) n3,ht4.cell (C.at 3 rfl) n3⟩
 ·exact(below0 (below0 (below0 (alloc_low _ _) (alloc_low _ _)) (alloc_low _ _)) (alloc_low _ _)).trans (ht4.below (below0 (below0 (below0 (alloc_low _ _) (alloc_low _ _)) (alloc_low _ _)) (alloc_low _ _)).size fun j hj e=>by omega)
theorem Zn7(h:NewN (Zdc a x y) 0 n):∃g v,n.src=some ⟨g,v,2,1,0,Zap (tx ⟨#[97,98]⟩) 1 2⟩:=by
 obtain⟨g,v,e⟩:=h.src (h.kd.trans rfl)
 have hk:kc (Zdc a x y).obj.size (Zdc a x y).size.toNat=2:=(show kc 2 1=2 by decide)
 rw[hk]at e
 exact⟨g,v,e⟩
theorem Zyw(g:Nat)(v:Value):srcD 0 ⟨g,v,2,1,0,Zap (tx ⟨#[97,98]⟩) 1 2⟩ [0,0]=⟨0,2,2,1,0,[1],⟨#[97]⟩⟩:=by kernel_rfl
theorem ZzM(g:Nat)(v:Value):srcD 0 ⟨g,v,2,1,0,Zap (tx ⟨#[97,98]⟩) 1 2⟩ [0,1]=⟨0,2,2,1,0,[2],⟨#[98]⟩⟩:=by kernel_rfl
theorem Zq1(h:NewN (Zdc a x y) 0 n):emD n [0,0]=some ⟨0,2,2,1,0,[1],⟨#[97]⟩⟩∧emD n [0,1]=some ⟨0,2,2,1,0,[2],⟨#[98]⟩⟩:=by
 obtain⟨g,v,e⟩:=Zn7 h
 unfold emD
 rw[e,h.id]
 exact⟨congrArg some (Zyw g v),congrArg some (ZzM g v)⟩
theorem Zz0(g:Nat)(v:Value):SrcOk 0 ⟨g,v,2,1,0,Zap (tx ⟨#[97,98]⟩) 1 2⟩:=by
 refine⟨by show 1≤2;decide,by show 2≤128;decide,Nat.zero_le _,?_,fun L=>Zcr.2 ?_⟩
 ·exact(show shorts [⟨#[97]⟩,⟨#[98]⟩] from fun t ht=>by
   simp only[List.mem_cons,List.not_mem_nil,or_false]at ht
   rcases ht with rfl|rfl<;>decide)
 ·have h1:=ZoC 2 0 L 0 (by decide) (by decide)
  have h2:=Zw6 2 0 L 0 (by decide) (by decide) (by decide)
  have h3:=Zzy (tx ⟨#[97,98]⟩) 1 2 0 L 0 (by decide) (by decide) (by decide)
  show ZaX 0 2 2 1 0 (ZdC 2 0 L 0) (st (ofL (Zap (tx ⟨#[97,98]⟩) 1 2) (ZdC 2 0 L 0) 2)).size
  rw[h3]
  exact⟨⟨⟨⟨by decide,by decide⟩,by decide,by decide⟩,⟨by decide,by decide⟩,⟨by decide,by decide⟩,by decide,by decide⟩,h1,h2,rfl⟩
theorem Zzn(h1:n.src=none)(h2:n.s.rl=none)(L:List Nat):emD n L=none:=by
 unfold emD
 rw[h1,h2]
theorem ZuW{ss:List ByteArray}{m:Nat}{l:Int}{L:List (List Nat×ByteArray)}(h:ObjP (ss.length:Int) l L ob)(hz:0<sizeOfK (ss.length:Int))(hg:∀x∈L,smalls x.1∧x.2.size≤1000∧x.1.length≤10)(hn:L.length≤300)(hv:∀x∈L,Zaj (ss.length:Int) x.1=true)
  (hh:∀x∈L,ZbZ ss x.1 x.2=true) (hm:∀x∈L,x.2.size=m) (hms:∀b,b<ss.length→(ss.getD b ByteArray.empty).size=m) (hk:ZcB L=ss.length):ob=st ((joinL ss).take l.toNat):=by
 obtain⟨rs,kn,bs,hc,hP,ho⟩:=h
 have hmem:∀r∈rs,core r∈L:=fun r hr=>by rw[←hc];exact List.mem_map.2 ⟨r,hr,rfl⟩
 have hgd:Good rs:=fun r hr=>⟨(hg _ (hmem r hr)).1,(hg _ (hmem r hr)).2.1⟩
 have hl:∀r∈rs,r.xs.length≤10:=fun r hr=>(hg _ (hmem r hr)).2.2
 have hn2:rs.length≤300:=by
  have e:rs.length=L.length:=by rw[←hc,List.length_map]
  exact e▸hn
 have hfr:Fit 1048576 (vecsL rs):=by
  have:=Zec hgd hl (fun _=>true)
  rwa[List.filter_eq_self.2 (fun _ _=>rfl)]at this
 have hfl:(rs.filter fun r=>Zaj (ss.length:Int) r.xs)=rs:=List.filter_eq_self.2 fun r hr=>hv _ (hmem r hr)
 have hrk:rankN rs=ss.length:=by rw[Zd4,hc];exact hk
 have hr:Zi4 (ss.length:Int) rs=ss.length:=by
  have h1:Zi4 (ss.length:Int) rs=(ZaW (vecsL rs)).length:=by unfold Zi4;rw[hfl]
  rw[h1,←Ze6 hfr,Zdq]
  exact hrk
 have h2:=(Zwx hP hgd hl hn2 hz (fun r hr=>hh (core r) (hmem r hr)) (fun r hr=>hm (core r) (hmem r hr)) hms).2
 rw[if_pos hr]at h2
 rw[ho,h2]
def blkS(t:ByteArray)(Z:Nat):List ByteArray:=Zap (tx t) Z (kc t.size Z)
theorem Zn6(t:ByteArray)(Z:Nat):(blkS t Z).length=kc t.size Z:=Za8 _ _ _
theorem ZvN(t:ByteArray)(Z:Nat):∀b,b<(blkS t Z).length→((blkS t Z).getD b ByteArray.empty).size=Z:=fun b hb=>by
 rw[Zn6]at hb
 unfold blkS
 rw[Zh7 _ _ _ _ hb,Zb1,Ziv]
theorem Zrq(t:ByteArray)(Z:Nat)(hz:1≤Z):st ((joinL (blkS t Z)).take t.size)=t:=by
 have hke:=Zfi t.size Z hz
 have hk1:=Zx6 t.size Z
 have h1:=Zrp (Zal t) Z (kc t.size Z) hk1 (by rw[Zaa];exact hke) (by
  rw[Zaa]
  by_cases e:kc t.size Z=1
  ·exact .inl e
  ·exact .inr ((Zvd t.size Z (kc t.size Z-1) hz (by omega)).1 (by omega)))
 rw[Zaa]at h1
 unfold blkS
 rw[h1,Zll]
structure TruP(t:ByteArray)(Z:Nat)(p:PKV):Prop where
 ok:okB p=true
 l:p.l=(t.size:Int)
 k:p.k=(kc t.size Z:Int)
 z:p.z=(Z:Int)
 h:ZbZ (blkS t Z) p.r.xs p.r.s=true
structure TrS(t:ByteArray)(Z:Nat)(s:DS):Prop where
 same:s.bg=true→s.l=(t.size:Int)∧s.k=(kc t.size Z:Int)∧s.z=(Z:Int)
 hold:∀x∈s.L,ZbZ (blkS t Z) x.1 x.2=true∧smalls x.1∧x.2.size≤1000∧x.1.length≤10
 told:s.dn=true→s.ob=t
theorem TrS.beg{p:PKV}(h:TrS t Z s)(hp:TruP t Z p):TrS t Z (begS s p):=by
 unfold begS
 split
 ·exact h
 ·exact⟨fun _=>⟨hp.l,hp.k,hp.z⟩,(fun x hx=>by cases hx),fun e=>by cases e⟩
theorem TrS.keep{M:Int}{x:List Nat×ByteArray}(h:TrS t Z s)(hi:DInv s)(hz:1≤Z)(hf:fitB s.k s.z x=true)(hx:ZbZ (blkS t Z) x.1 x.2=true∧smalls x.1∧x.2.size≤1000∧x.1.length≤10)(hT:Zej M s x ob):TrS t Z (ZfV M s x ob):=by
 have hhold:∀y∈s.L++[x],ZbZ (blkS t Z) y.1 y.2=true∧smalls y.1∧y.2.size≤1000∧y.1.length≤10:=fun y hy=>by
  rcases List.mem_append.1 hy with hy|hy
  ·exact h.hold y hy
  ·rw[List.mem_singleton.1 hy];exact hx
 have hfit:∀y∈s.L++[x],fitB s.k s.z y=true:=fun y hy=>by
  rcases List.mem_append.1 hy with hy|hy
  ·exact hi.fit y hy
  ·rw[List.mem_singleton.1 hy];exact hf
 cases hd:s.dn
 ·by_cases hl:s.L.length<capN M
  ·by_cases hr:(ZcB (s.L++[x]):Int)=s.k
   ·have ho:=hT (Zds (ob:=ob) hd hl hr).2.2
    obtain⟨e1,e2,e3⟩:=h.same hi.bg
    rw[(Zds hd hl hr).1]
    refine⟨h.same,hhold,fun _=>?_⟩
    show ob=t
    have hkk:s.k=((blkS t Z).length:Int):=by rw[Zn6];exact e2
    rw[hkk,e1]at ho
    have hlen:(s.L++[x]).length≤300:=by
     rw[List.length_append,List.length_singleton]
     have:=ZfQ M
     exact Nat.le_trans (Nat.succ_le_of_lt hl) (Nat.le_trans this (by decide))
    have hvv:∀y∈s.L++[x],Zaj ((blkS t Z).length:Int) y.1=true∧y.2.size=Z:=fun y hy=>by
     have:=hfit y hy
     unfold fitB at this
     rw[Bool.and_eq_true,Bool.and_eq_true]at this
     have h2:=decide_eq_true_iff.1 this.2
     rw[e3]at h2
     exact⟨by rw[←hkk];exact this.1.1,Int.ofNat.inj h2⟩
    have hrr:ZcB (s.L++[x])=(blkS t Z).length:=by
     rw[hkk]at hr
     exact Int.ofNat.inj hr
    have hsz:0<sizeOfK ((blkS t Z).length:Int):=(Za7 (hvv x (List.mem_append.2 (.inr List.mem_cons_self))).1).1
    have:=ZuW (m:=Z) ho hsz (fun y hy=>(hhold y hy).2) hlen (fun y hy=>(hvv y hy).1) (fun y hy=>(hhold y hy).1) (fun y hy=>(hvv y hy).2) (ZvN t Z) hrr
    rw[Int.toNat_natCast,Zrq t Z hz]at this
    exact this
   ·rw[(ZjB hd hl hr).1]
    exact⟨h.same,hhold,fun e=>by have e':s.dn=true:=e;rw[hd]at e';cases e'⟩
  ·rw[(ZfD hd hl).1]
   exact⟨h.same,h.hold,h.told⟩
 ·rw[(Zjq hd).1];exact h
theorem TrS.put{M:Int}{p:PKV}(h:TrS t Z s)(hi:s.bg=true→DInv s)(hz:1≤Z)(hp:TruP t Z p)(hx:smalls p.r.xs∧p.r.s.size≤1000∧p.r.xs.length≤10)(hT:admB s p=true→Zej M (begS s p) (p.r.xs,p.r.s) ob):TrS t Z (dput M s p ob):=by
 cases ha:admB s p
 ·rw[(Zst ha).1];exact h
 ·rw[(ZnV ha).1]
  exact(h.beg hp).keep (DInv.beg hi hp.ok) hz (ZlM ha).2.1 ⟨hp.h,hx⟩ (hT ha)
theorem Zri{kd fr ic o l k z h:Int}{xs:List Nat}{en:Nat}(hd:ZfL ⟨#[]⟩ kd fr ic o l k z h xs t en):en=2:=by
 have h2:=(Zh5 (s:=⟨#[]⟩) (by decide)).1
 exact((hd.1 (by rw[h2];decide)).1).trans h2
end Go.Proofs.YtlhhinlghhjghaaGreatDoor
