/-
  Contracts of (*peeling).text, tell, told, rest.
  Contracts of (*peeling).rest, tell.
  Contract of peel.Peel.
  peel.Peel for any k; plain mathematics of the reference's way: a row less the known ones, known ones with one more.
  Contract of xor.Row.
-/
import Derived.Test.YtlhhinlghhjghaaGreatDoorU6
import Derived.Test.YtlhhinlghhjghaaGreatDoorU4
import Derived.Deep.LoopGhost
import Derived.Test.YtlhhinlghhjghaaGreatDoorU2
namespace Go.Proofs.YtlhhinlghhjghaaGreatDoor
open Go.RowKit Go.Sort
set_option linter.unusedVariables false
set_option linter.unusedSimpArgs false
set_option maxRecDepth 4000
set_option maxHeartbeats 8000000
variable {k:Int}{ss bs:List ByteArray}{kn:List Nat}{rs:List RV}{B n m g:Nat}{S:Nat→Bool}{cs:Nat→List Nat}{w:World}
theorem OwnT.at'{a:Option Addr}{c:Nat}(h:OwnT w B (.slice a n c) ss):n=ss.length∧TextsAt w a ss.length ss:=by
 obtain⟨a1,c1,e,hr⟩:=h.texts
 simp only[Value.slice.injEq]at e
 obtain⟨rfl,rfl,rfl⟩:=e
 exact⟨rfl,hr⟩
theorem ZnZ(B:Nat)(v:PV)(kn:List Nat)(bs:List ByteArray)(rs:List RV)(p:Nat)(w:World)(h:PlAt w B v kn bs)(hR:RowsAt w v.a v.n rs)(hs:shortR rs)(hp:p<v.n)(hn:v.n≤1048576)(hb:shorts bs)(hbl:bs.length≤1048576):
  Calls Tryz.prog 310 #[.pointer (some ⟨v.g,0,none⟩),.int .i64 (p:Int)] w fun e w'=>e=.returned (.string (txtL bs (rs.getD p .dflt).xs (rs.getD p .dflt).s))∧Below w.heap.size w w':=by
 obtain⟨g,a,n,c,kg,kc,bg,bc,bm⟩:=v
 simp only at*
 obtain⟨b,off,rfl,hcl⟩:=hR.at hp
 obtain⟨hc0,hc1⟩:=hcl p hp
 have hrow:=hR.2.1 p hp
 have hsh:=hs p
 obtain⟨x0,x1,x2,x3⟩:=h.cells
 have hbk:=h.blocks.at'.2
 have hgl:=h.lt
 have hpn:(p:Int)<(n:Int):=by omega
 generalize rs.getD p .dflt=r at*
 have hb1:Below w.heap.size w (w.alloc (.cells #[.slice r.a r.n r.c,.string r.s] 57)):=(Below.refl _ _).alloc (Nat.le_refl _) _
 have hx:=ZcM w (.slice r.a r.n r.c) (.string r.s)
 have hsz:(st (ofL bs r.xs bs.length)).size≤1048576:=by rw[ZsA (ZcA _ _ _)];exact Zmj bs r.xs hb _
 have k0:=cell_regrown hx.1
 have k1:=cell_regrown hx.2
 have k2:=cell_regrown ((hb1.cell (p:=⟨g,2,none⟩) hgl).trans x2)
 have cOf:=Za6 (W:=w.alloc (.cells #[.slice r.a r.n r.c,.string r.s] 57)) (fun w' hbx=>Zya (some ⟨bg,0,none⟩) bs.length bc bs r.a r.n r.c r.xs w' ((hbk.below hb1).below hbx) hb hbl ((hrow.below hb1).below hbx) (by omega))
 have cXor:=Za6 (W:=w.alloc (.cells #[.slice r.a r.n r.c,.string r.s] 57)) (fun w' hbx=>ZAo r.s (st (ofL bs r.xs bs.length)) w' (by omega) hsz)
 have B1:=hide hb1
 clear hcl hR hs hrow hbk hx hsz hb1 h hgl
 go_enter Tryz.func310,Tryz.ntmps310
 go_wp2_with fail
 refine wp_region_quiet_below (by kernel_rfl) (by kernel_rfl) ?_
 repeat (with_reducible refine wpQuiet_step (fun K hK=>?_);go_simp;first|(with_reducible refine hK _ ?_;clear hK K)|(apply Exists.intro;apply And.intro;(intro _;first|(go_at_call 224;exact cOf _ _)|(go_at_call 327;exact cXor _ _));with_reducible refine hK _ ?_;clear hK K))
 refine wpQuiet_nil ?_
 intro _ hw'
 obtain⟨⟨dq,osq⟩,hw''⟩:=hw'
 subst hw''
 go_wp2
 go_ret
 exact⟨rfl,below0 (unhide B1) (below_regrown _ dq osq)⟩
def toldTo(k:Int)(kn:List Nat)(bs:List ByteArray)(m:Nat):List (List Nat×ByteArray):=((List.range m).filter fun b=>getB kn b).map fun(b:Nat)=>(unitL k (b:Int),bs.getD b ByteArray.empty)
theorem ZpY(h:getB kn m=true):toldTo k kn bs (m+1)=toldTo k kn bs m++[(unitL k (m:Int),bs.getD m ByteArray.empty)]:=by
 unfold toldTo
 rw[List.range_succ,List.filter_append,List.map_append]
 simp only[List.filter_cons,List.filter_nil,h,if_true,List.map_cons,List.map_nil]
theorem Zrs(h:getB kn m=false):toldTo k kn bs (m+1)=toldTo k kn bs m:=by
 unfold toldTo
 rw[List.range_succ,List.filter_append,List.map_append]
 simp only[List.filter_cons,List.filter_nil,h,Bool.false_eq_true,if_false,List.map_nil,List.append_nil]
theorem Zif(k:Int)(kn:List Nat)(bs:List ByteArray)(m:Nat):(toldTo k kn bs m).length≤m:=by
 unfold toldTo
 rw[List.length_map]
 have:=List.length_filter_le (fun b=>getB kn b) (List.range m)
 simpa using this
theorem ZwH(B:Nat)(v:PV)(kn:List Nat)(bs:List ByteArray)(w:World)(h:PlAt w B v kn bs)(hbl:bs.length≤1048576)(hkl:kn.length≤1048576):
  Calls Tryz.prog 278 #[.pointer (some ⟨v.g,0,none⟩)] w fun e w'=> ∃a1 m1 c1 ts,e=.returned (.slice a1 m1 c1)∧GaS w w' a1 m1 c1 (toldTo (bs.length:Int) kn bs bs.length) ts:=by
 obtain⟨g,a,n,c,kg,kc,bg,bc,bm⟩:=v
 simp only at*
 obtain⟨x0,x1,x2,x3⟩:=h.cells
 simp only at x0 x1 x2 x3
 have H:=hide h
 clear h
 go_enter Tryz.func278,Tryz.ntmps278
 go_wp2
 go_loopw [3,11] (fun o i wr=> ∃k:Nat,∃a1:Option Addr,∃m1 c1:Nat,∃ts:List RV,k≤bs.length∧i=.int .i64 k∧o=.slice a1 m1 c1∧Hid (GaS w wr a1 m1 c1 (toldTo (bs.length:Int) kn bs k) ts)) (fun _ i _=>bs.length-(intOf i).toNat)
 case atStart=>exact⟨0,none,0,0,[],Nat.zero_le _,rfl,rfl,hide (GaS.nil w)⟩
 case round=>
  obtain⟨k,a1,m1,c1,ts,hk,rfl,rfl,HG⟩:=hrel
  clear x0 x1 x2 x3
  by_cases hlt:k<bs.length
  ·have hP:=(unhide H).below (unhide HG).2.2.2.2
   obtain⟨x0,x1,x2,x3⟩:=hP.cells
   simp only at x0 x1 x2 x3
   obtain⟨b9,off9,e9,hbc⟩:=(hP.blocks.at'.2).at hlt
   simp only[Option.some.injEq,Addr.mk.injEq,and_true]at e9
   obtain⟨rfl,rfl⟩:=e9
   have hbt:=hbc k hlt
   rw[Nat.zero_add]at hbt
   have hlt':(k:Int)<(bs.length:Int):=by omega
   have HGT:=hide (Zn0 (some ⟨kg,0,none⟩) kn.length kc kn k wr hP.known.at'.2 hkl (by omega))
   have HYS:=hide (fun h=>ZpY (k:=(bs.length:Int)) (kn:=kn) (bs:=bs) (m:=k) h)
   have HNO:=hide (fun h=>Zrs (k:=(bs.length:Int)) (kn:=kn) (bs:=bs) (m:=k) h)
   have hgl:=hP.lt
   simp only at hgl
   have htl:ts.length≤1048576:=by
    have:=congrArg List.length (unhide HG).2.2.2.1
    rw[List.length_map]at this
    have:=Zif (bs.length:Int) kn bs k
    omega
   clear hP hbc
   generalize bs.getD k ByteArray.empty=t at*
   cases hgk:getB kn k
   ·rw[hgk]at HGT
    have HE:=hide (unhide HNO hgk)
    clear HYS HNO
    go_wp2_with (go_at_call 253;refine(unhide HGT).mono ?_;rintro e w1 ⟨rfl,hb1⟩;have HB1:=hide hb1;clear hb1)
    go_roundw
    case rel=>exact⟨k+1,a1,m1,c1,ts,by omega,by go_num,rfl,hide (by rw[unhide HE];exact(unhide HG).below (unhide HB1))⟩
    case measure=>simp[intOf];omega
   ·rw[hgk]at HGT
    have HE:=hide (unhide HYS hgk)
    have HUN:=hide (fun w1=>ZnU (bs.length:Int) (k:Int) w1 (by omega))
    clear HYS HNO
    obtain⟨ul,hul⟩:∃ul,ul=unitL (bs.length:Int) (k:Int):=⟨_,rfl⟩
    rw[←hul]at HE HUN
    clear hul
    go_wp2_with (first|(go_at_call 253;refine(unhide HGT).mono ?_;rintro e w1 ⟨rfl,hb1⟩;have z2:=(hb1.cell (p:=⟨g,2,none⟩) hgl).trans x2;have HB1:=hide hb1;clear hb1)|(go_at_call 241;refine(unhide HUN _).mono ?_;rintro e w2 ⟨v2,rfl,ho2,hb2⟩;obtain⟨a2,c2,rfl,hr2⟩:=ho2.row;have HO2:=hide ho2;have HR2:=hide hr2;have HG2:=hide ((unhide HG).below (below0 (unhide HB1) hb2));clear ho2 hb2 hr2)|(at_builtin;refine Zf1 rfl (.tmp 22) (.tmp 32) rfl w.heap.size (.slice a1 m1 c1) ts ⟨a2,ul.length,c2,ul,t⟩ rfl rfl (unhide HG2).1 (unhide HG2).2.2.2.2.size htl ?_;intro v3 w3 ho3 hg3 hb3;obtain⟨a3,m3,c3,rfl,hG3⟩:=(unhide HG2).push (RowsIn.one (unhide HR2) (unhide HO2).cap) (Tys.own (unhide HO2)) ho3 hg3 hb3;have HG3:=hide hG3;clear ho3 hg3 hb3 hG3))
    go_roundw
    case rel=>exact⟨k+1,a3,m3,c3,_,by omega,by go_num,rfl,hide (by rw[unhide HE];exact unhide HG3)⟩
    case measure=>simp[intOf];omega
  ·have hke:k=bs.length:=by omega
   subst hke
   go_wp2
   go_ret
   exact⟨a1,m1,c1,ts,rfl,unhide HG⟩
def Zdi(S:Nat→Bool)(cs:Nat→List Nat)(bs:List ByteArray)(rs:List RV)(m:Nat):List (List Nat×ByteArray):=((List.range m).filter fun p=>S p).map fun(p:Nat)=>(cs p,txtL bs (rs.getD p .dflt).xs (rs.getD p .dflt).s)
theorem Zpz(h:S m=true):Zdi S cs bs rs (m+1)=Zdi S cs bs rs m++[(cs m,txtL bs (rs.getD m .dflt).xs (rs.getD m .dflt).s)]:=by
 unfold Zdi
 rw[List.range_succ,List.filter_append,List.map_append]
 simp only[List.filter_cons,List.filter_nil,h,if_true,List.map_cons,List.map_nil]
theorem Zq0(h:S m=false):Zdi S cs bs rs (m+1)=Zdi S cs bs rs m:=by
 unfold Zdi
 rw[List.range_succ,List.filter_append,List.map_append]
 simp only[List.filter_cons,List.filter_nil,h,Bool.false_eq_true,if_false,List.map_nil,List.append_nil]
theorem ZoX(S:Nat→Bool)(cs:Nat→List Nat)(bs:List ByteArray)(rs:List RV)(m:Nat):(Zdi S cs bs rs m).length≤m:=by
 unfold Zdi
 rw[List.length_map]
 have:=List.length_filter_le (fun b=>S b) (List.range m)
 simpa using this
theorem Zvk(B:Nat)(v:PV)(sz:Nat)(S:Nat→Bool)(f:Nat→Nat×Nat)(cs:Nat→List Nat)(kn:List Nat)(bs:List ByteArray)(rs:List RV)(w:World)(h:PS w B v sz S f cs kn bs)(hR:RowsAt w v.a v.n rs)(hs:shortR rs)(hn:v.n≤1048576)(hb:shorts bs)(hbl:bs.length≤1048576):
  Calls Tryz.prog 279 #[.pointer (some ⟨v.g,0,none⟩)] w fun e w'=> ∃a1 m1 c1 ts,e=.returned (.slice a1 m1 c1)∧GaS w w' a1 m1 c1 (Zdi S cs bs rs v.n) ts:=by
 obtain⟨x0,x1,x2,x3⟩:=h.1.cells
 have H:=hide h
 have HR:=hide hR
 have HS:=hide hs
 clear h hR hs
 go_enter Tryz.func279,Tryz.ntmps279
 go_wp2
 go_loopw [3,12] (fun o i wr=> ∃k:Nat,∃a1:Option Addr,∃m1 c1:Nat,∃ts:List RV,k≤v.n∧i=.int .i64 k∧o=.slice a1 m1 c1∧Hid (GaS w wr a1 m1 c1 (Zdi S cs bs rs k) ts)) (fun _ i _=>v.n-(intOf i).toNat)
 case atStart=>exact⟨0,none,0,0,[],Nat.zero_le _,rfl,rfl,hide (GaS.nil w)⟩
 case round=>
  obtain⟨k,a1,m1,c1,ts,hk,rfl,rfl,HG⟩:=hrel
  clear x0 x1 x2 x3
  by_cases hlt:k<v.n
  ·have hP:=(unhide H).below (unhide HG).2.2.2.2
   obtain⟨x0,x1,x2,x3⟩:=hP.1.cells
   have hlt':(k:Int)<(v.n:Int):=by omega
   have HYS:=hide (fun h=>Zpz (S:=S) (cs:=cs) (bs:=bs) (rs:=rs) (m:=k) h)
   have HNO:=hide (fun h=>Zq0 (S:=S) (cs:=cs) (bs:=bs) (rs:=rs) (m:=k) h)
   have htl:ts.length≤1048576:=by
    have:=congrArg List.length (unhide HG).2.2.2.1
    rw[List.length_map]at this
    have:=ZoX S cs bs rs k
    omega
   obtain⟨D,hD,hRd⟩:=hP.2.1
   have HTX:=hide (ZnZ B v kn bs rs k wr hP.1 ((unhide HR).below (unhide HG).2.2.2.2) (unhide HS) hlt hn hb hbl)
   cases hSk:S k
   ·obtain⟨az,nz,cz,hlk⟩:=ZpU hD hRd hSk (by omega)
    have HE:=hide (unhide HNO hSk)
    clear HYS HNO hP hD hRd HTX
    go_wp2
    go_roundw
    case rel=>exact⟨k+1,a1,m1,c1,ts,by omega,by go_num,rfl,hide (by rw[unhide HE];exact unhide HG)⟩
    case measure=>simp[intOf];omega
   ·have hlk:=Zo0 hD hRd hSk (by omega)
    have HE:=hide (unhide HYS hSk)
    have HO:=hide (hP.2.2.1.own k hSk).1
    clear HYS HNO hP hD hRd
    generalize txtL bs (rs.getD k .dflt).xs (rs.getD k .dflt).s=t at*
    generalize (f k).1=gk at*
    generalize (f k).2=ck at*
    obtain⟨vl,hvl⟩:∃vl,vl=cs k:=⟨_,rfl⟩
    rw[←hvl]at HE HO
    clear hvl
    go_wp2_with (first|(go_at_call 310;refine(unhide HTX).mono ?_;rintro e w2 ⟨rfl,hb2⟩;have HO2:=hide ((unhide HO).below hb2);have HG2:=hide ((unhide HG).below hb2);clear hb2)|(at_builtin;refine Zf1 rfl (.tmp 25) (.tmp 31) rfl w.heap.size (.slice a1 m1 c1) ts ⟨some ⟨gk,0,none⟩,sz,ck,vl,t⟩ rfl rfl (unhide HG2).1 (unhide HG2).2.2.2.2.size htl ?_;intro v3 w3 ho3 hg3 hb3;obtain⟨a3,m3,c3,rfl,hG3⟩:=(unhide HG2).push (RowsIn.one (by have:=(unhide HO2).at';exact this.1▸this.2) (unhide HO2).cap) (Tys.own (unhide HO2)) ho3 hg3 hb3;have HG3:=hide hG3;clear ho3 hg3 hb3 hG3))
    go_roundw
    case rel=>exact⟨k+1,a3,m3,c3,_,by omega,by go_num,rfl,hide (by rw[unhide HE];exact unhide HG3)⟩
    case measure=>simp[intOf];omega
  ·have hke:k=v.n:=by omega
   subst hke
   go_wp2
   go_ret
   exact⟨a1,m1,c1,ts,rfl,unhide HG⟩
theorem PlAt.gb{v:PV}(h:PlAt w B v kn bs):v.g≠v.bg:=fun e=>by
 obtain⟨cb,hcb⟩:=h.blocks.blk
 have:=h.box
 rw[e,hcb]at this
 simp only[Option.some.injEq,Obj.cells.injEq]at this
 exact absurd this.2.1 (by decide)
theorem PS.told{w1 w2 w3:World}{v:PV}{sz:Nat}{f:Nat→Nat×Nat}{b:Nat}{t:ByteArray}(h:PS w B v sz S f cs kn bs)(hB:B≤w.heap.size)(hb1:Below w.heap.size w w1)(hw2:w1.grownBy w2 (some v.bg))
  (ho2:OwnT w2 B (.slice (some ⟨v.bg,0,none⟩) bs.length v.bc) (bs.set b t)) (hg3:w2.grownBy w3 (some v.kg)) (ho3:Own w3 B (.slice (some ⟨v.kg,0,none⟩) kn.length v.kc) (setB kn b true)):PS w3 B v sz S f cs (setB kn b true) (bs.set b t)∧Below B w w3:=by
 obtain⟨p1,⟨D,d1,d2⟩,l1,s1,m1⟩:=h.below hb1
 obtain⟨cb,hcb⟩:=p1.blocks.blk
 obtain⟨ck,hck⟩:=p1.known.blk
 have hgb:v.g≠v.bg:=fun e=>by
  have:=p1.box
  rw[e,hcb]at this
  simp only[Option.some.injEq,Obj.cells.injEq]at this
  exact absurd this.2.1 (by decide)
 have hgk:v.g≠v.kg:=fun e=>by
  have:=p1.box
  rw[e,hck]at this
  simp only[Option.some.injEq,Obj.cells.injEq]at this
  exact absurd this.2.1 (by decide)
 have hbk:v.bg≠v.kg:=fun e=>by
  rw[e,hck]at hcb
  simp only[Option.some.injEq,Obj.cells.injEq]at hcb
  exact absurd hcb.2.1 (by decide)
 have hmb:v.bm≠v.bg:=fun e=>by
  obtain⟨es,clock,hb,_⟩:=d1
  rw[e,hcb]at hb
  cases hb
 have hmk:v.kg≠v.bm:=ZdO p1.known d1
 have hlb:∀p,S p=true→(f p).1≠v.bg:=fun p hp e=>by
  obtain⟨c2,hc2⟩:=(l1.own p hp).1.blk
  rw[e,hcb]at hc2
  simp only[Option.some.injEq,Obj.cells.injEq]at hc2
  exact absurd hc2.2.1 (by decide)
 have l2:=l1.kept hw2 hlb
 have l3:=l2.kept hg3 (fun p hp=>(s1 p hp).2)
 have d3:=(d1.kept hw2 (fun e=>hmb (by simpa using e))).kept hg3 (fun e=>hmk (by simpa using e.symm))
 have hx:=p1.box
 refine⟨⟨⟨?_,by rw[Zbh];exact ho3,?_⟩,⟨D,d3,d2⟩,l3,s1,m1⟩,?_⟩
 ·rw[Zbh,List.length_set]
  exact(hg3.block v.g (Nat.lt_of_lt_of_le p1.lt hw2.size) (by simpa using hgk)).trans ((hw2.block v.g p1.lt (by simpa using hgb)).trans hx)
 ·rw[List.length_set]
  exact World.ownsRow.kept ho2 hg3 (.inr fun e=>hbk (by simpa [Value.ownBlock]using e))
 ·have B1:=hb1.mono hB
  refine(B1.trans (Zat hw2 (Nat.le_trans hB hb1.size) fun j hj=>by cases hj;exact(World.ownsRow.lt p1.blocks v.bg rfl).1)).trans (Zat hg3 (Nat.le_trans hB (Nat.le_trans hb1.size hw2.size)) fun j hj=>by cases hj;exact(ho3.lt (k:=v.kg) rfl).1)
theorem Zwu(B:Nat)(v:PV)(sz:Nat)(S:Nat→Bool)(f:Nat→Nat×Nat)(cs:Nat→List Nat)(kn:List Nat)(bs:List ByteArray)(rs:List RV)(p b:Nat)(w:World)(ht:Tab w)(h:PS w B v sz S f cs kn bs)(hB:B≤w.heap.size)(hR:RowsAt w v.a v.n rs)(hs:shortR rs)(hn:v.n≤1048576)(hb:shorts bs)(hbl:bs.length≤1048576)(hz:sz≤1048576)(hkl:kn.length≤1048576)
  (hp:S p=true) (hf:firstI (cs p)=(b:Int)) (hbb:b<bs.length) (hbk:b/64<kn.length):
  Calls Tryz.prog 280 #[.pointer (some ⟨v.g,0,none⟩),.int .i64 (p:Int)] w fun e w'=>e=.returned (.tuple #[])∧PS w' B v sz S f cs (setB kn b true) (bs.set b (txtL bs (rs.getD p .dflt).xs (rs.getD p .dflt).s))∧Below B w w':=by
 obtain⟨x0,x1,x2,x3⟩:=h.1.cells
 have hpn:=(h.2.2.2.1 p hp).1
 obtain⟨D,hD,hRd⟩:=h.2.1
 have hlk:=ZyS hD hRd hp (by omega)
 have hrw:=(h.2.2.1.own p hp).1
 have HF:=hide (Zc0 (some ⟨(f p).1,0,none⟩) sz (f p).2 (cs p) w ht (by have:=hrw.at';exact this.1▸this.2) hz)
 rw[hf]at HF
 have HTX:=hide (fun wx (hbx:Below w.heap.size w wx)=>ZnZ B v kn bs rs p wx (h.1.below hbx) (hR.below hbx) hs hpn hn hb hbl)
 have hgl:=h.1.lt
 have hgb:=h.1.gb
 have hgb':¬v.bg=v.g:=fun e=>hgb e.symm
 have H:=hide h
 generalize txtL bs (rs.getD p .dflt).xs (rs.getD p .dflt).s=t at*
 have HEND:=hide (fun(w1 w2 w3:World) hb1 hw2 ho2 hg3 ho3=>PS.told (w1:=w1) (w2:=w2) (w3:=w3) (b:=b) (t:=t) h hB hb1 hw2 ho2 hg3 ho3)
 have hbb':(b:Int)<(bs.length:Int):=by omega
 clear hD hRd hrw hR hs ht h hf
 generalize (f p).1=gp at*
 generalize (f p).2=cp at*
 go_enter Tryz.func280,Tryz.ntmps280
 go_wp2_with (go_at_call 267;refine(unhide HF).mono ?_;rintro e w9 ⟨rfl,hw9⟩;obtain rfl:=hw9.symm;clear hw9)
 go_region_held (fun w'=>w'.cell? ⟨v.g,2,none⟩=some (.slice (some ⟨v.bg,0,none⟩) bs.length v.bc)) (go_keep) (first|(go_at_call 310;refine(unhide HTX _ ((Below.refl _ _).drew)).mono ?_;rintro e w1 ⟨rfl,hb1⟩;have hb1w:Below w.heap.size w w1:=below0 ((Below.refl w.heap.size w).drew) hb1;have z2:=(hb1w.cell (p:=⟨v.g,2,none⟩) hgl).trans x2;have z1:=(hb1w.cell (p:=⟨v.g,1,none⟩) hgl).trans x1;have hP1:=(unhide H).below hb1w;obtain⟨g9,c9,e9,hB9,hl9,hc9,hf9⟩:=hP1.1.blocks.at (by omega);simp only[Value.slice.injEq,Option.some.injEq,Addr.mk.injEq,and_true,true_and]at e9;obtain⟨e9a,e9b⟩:=e9;subst e9a e9b;have y0:=hc9 b hbb;have y1:=hf9 b;have HP1:=hide hP1;have HB1:=hide hb1w;clear hP1 hb1w hc9 hf9 hb1))
 have q1:(w1.setCell ⟨v.bg,b,none⟩ (.string t)).cell? ⟨v.g,1,none⟩=some (.slice (some ⟨v.kg,0,none⟩) kn.length v.kc):=(World.cell?_setCell_other (h:=fun h=>hgb' (by injection h)) ..).trans z1
 have HO2:=hide ((unhide HP1).1.blocks.stored b t)
 have HG2:=hide (Zad w1 v.bg b (.string t))
 generalize (w1.setCell ⟨v.bg,b,none⟩ (.string t))=w2 at*
 have HK2:=hide (show Own w2 B (.slice (some ⟨v.kg,0,none⟩) kn.length v.kc) kn from(unhide HP1).1.known.kept (unhide HG2) (.inr fun e=>by
  obtain⟨cb,hcb⟩:=(unhide HP1).1.blocks.blk
  obtain⟨ck,hck⟩:=(unhide HP1).1.known.blk
  simp only[Value.ownBlock,Option.some.injEq]at e
  rw[e,hcb]at hck
  simp only[Option.some.injEq,Obj.cells.injEq]at hck
  exact absurd hck.2.1 (by decide)))
 have HST:=hide (Zv0 B v.kg v.kc kn b w2 (unhide HK2) hbk hkl)
 clear z1 z2 y0 y1 x0 x1 x2 x3 hlk
 go_wp2_with (go_at_call 311;refine(unhide HST).mono ?_;rintro e w3 ⟨rfl,ho3,hg3⟩;have HO3:=hide ho3;have HG3:=hide hg3;clear ho3 hg3)
 go_end0
 exact⟨rfl,unhide HEND w1 w2 w3 (unhide HB1) (unhide HG2) (unhide HO2) (unhide HG3) (unhide HO3)⟩
def Zgk(k:Int)(kn:List Nat)(r:RV):Bool:=Zaj k r.xs&& !decide (cnt (dropL r.xs kn)=0)&& !decide (cnt (dropL r.xs kn)=1)
def restL(k:Int)(rs:List RV)(kn:List Nat)(bs:List ByteArray):List (List Nat×ByteArray):=(rs.filter (Zgk k kn)).map fun r=>(dropL r.xs kn,txtL bs r.xs r.s)
def InvL(k:Int)(rs:List RV)(n:Nat)(S:Nat→Bool)(cs:Nat→List Nat)(kn:List Nat):Prop:=
 (∀p,S p=true→p<n∧Zaj k (rs.getD p .dflt).xs=true∧dropL (cs p) kn=dropL (rs.getD p .dflt).xs kn)∧∀p,p<n→Zaj k (rs.getD p .dflt).xs=true→S p=false→cnt (dropL (rs.getD p .dflt).xs kn)=0
theorem InvL.start(k:Int)(rs:List RV)(n:Nat)(kn:List Nat):InvL k rs n (Zcs k rs n) (fun p=>(rs.getD p .dflt).xs) kn:=by
 refine⟨fun p hp=>?_,fun p hp hv hS=>?_⟩
 ·unfold Zcs at hp
  rw[Bool.and_eq_true,decide_eq_true_eq]at hp
  exact⟨hp.1,hp.2,rfl⟩
 ·unfold Zcs at hS
  rw[hv,decide_eq_true hp]at hS
  cases hS
theorem InvL.next(h:InvL k rs n S cs kn):
  (∀p,Zdn S cs kn p=true→p<n∧Zaj k (rs.getD p .dflt).xs=true∧dropL (cs p) kn=dropL (rs.getD p .dflt).xs kn∧¬cnt (dropL (rs.getD p .dflt).xs kn)=0)∧∀p,p<n→Zaj k (rs.getD p .dflt).xs=true→Zdn S cs kn p=false→cnt (dropL (rs.getD p .dflt).xs kn)=0:=by
 refine⟨fun p hp=>?_,fun p hp hv hS=>?_⟩
 ·unfold Zdn at hp
  rw[Bool.and_eq_true]at hp
  obtain⟨h1,h2,h3⟩:=h.1 p hp.1
  refine⟨h1,h2,h3,fun e=>?_⟩
  rw[h3,e]at hp
  simp at hp
 ·cases hSp:S p
  ·exact h.2 p hp hv hSp
  ·unfold Zdn at hS
   rw[hSp,Bool.true_and]at hS
   rw[←(h.1 p hSp).2.2]
   simpa using hS
theorem InvL.tell{kn':List Nat}(h:InvL k rs n S cs kn)(hsm:∀p,p<n→smalls (rs.getD p .dflt).xs)(hsub:∀i,getB kn i=true→getB kn' i=true):InvL k rs n (Zdn S cs kn) (fun p=>dropL (cs p) kn) kn':=by
 obtain⟨h1,h2⟩:=h.next
 refine⟨fun p hp=>?_,fun p hp hv hS=>?_⟩
 ·obtain⟨a,b,c,_⟩:=h1 p hp
  refine⟨a,b,?_⟩
  show dropL (dropL (cs p) kn) kn'=_
  rw[c,ZlX _ _ _ hsub (hsm p a)]
 ·have h0:=Zjr.1 (h2 p hp hv hS)
  refine Zjr.2 fun i=>?_
  have:=h0 i
  rw[ZbC]at this⊢
  cases hx:getB (rs.getD p .dflt).xs i
  ·rfl
  ·rw[hx]at this
   simp at this
   rw[hsub i this];rfl
theorem InvL.found{first:Nat}(h:InvL k rs n S cs kn)(hl:rs.length=n)(hlt:first<n)(h1:S first=true∧cnt (dropL (cs first) kn)=1)(h2:∀p,S p=true→cnt (dropL (cs p) kn)=1→first≤p):
  rs.find? (Zbs k kn)=some (rs.getD first .dflt)∧Zbs k kn (rs.getD first .dflt)=true:=by
 obtain⟨a,b,c⟩:=h.1 first h1.1
 have ht:Zbs k kn (rs.getD first .dflt)=true:=by
  unfold Zbs
  rw[b,←c,h1.2];rfl
 refine⟨ZyD (by omega) ht fun j hj=>?_,ht⟩
 cases hv:Zaj k (rs.getD j .dflt).xs
 ·unfold Zbs;rw[hv];rfl
 ·unfold Zbs
  rw[hv,Bool.true_and,decide_eq_false_iff_not]
  intro hc
  cases hS:S j
  ·have:=h.2 j (by omega) hv hS;omega
  ·have:=h2 j hS (by rw[(h.1 j hS).2.2];exact hc);omega
theorem InvL.nomore(h:InvL k rs n S cs kn)(hl:rs.length=n)(h2:∀p,S p=true→cnt (dropL (cs p) kn)=1→n≤p):rs.find? (Zbs k kn)=none:=by
 refine Zyu fun j hj=>?_
 cases hv:Zaj k (rs.getD j .dflt).xs
 ·unfold Zbs;rw[hv];rfl
 ·unfold Zbs
  rw[hv,Bool.true_and,decide_eq_false_iff_not]
  intro hc
  cases hS:S j
  ·have:=h.2 j (by omega) hv hS;omega
  ·have:=h2 j hS (by rw[(h.1 j hS).2.2];exact hc);omega
theorem Zlm(rs:List RV)(q:RV→Bool)(g:RV→List Nat×ByteArray):((List.range rs.length).filter fun p=>q (rs.getD p .dflt)).map (fun p=>g (rs.getD p .dflt))=(rs.filter q).map g:=by
 have e:(List.range rs.length).map (fun p=>rs.getD p .dflt)=rs:=by
  apply List.ext_getElem
  ·simp
  ·intro i h1 h2
   simp[List.getD_eq_getElem?_getD,List.getElem?_eq_getElem h2]
 conv=>rhs;rw[←e,List.filter_map,List.map_map]
 rfl
theorem InvL.rest(h:InvL k rs n S cs kn)(hl:rs.length=n)(hnone:rs.find? (Zbs k kn)=none)(bs:List ByteArray):Zdi (Zdn S cs kn) (fun p=>dropL (cs p) kn) bs rs n=restL k rs kn bs:=by
 obtain⟨h1,h2⟩:=h.next
 have hq:∀p,p<n→Zdn S cs kn p=Zgk k kn (rs.getD p .dflt):=fun p hp=>by
  have hno:Zbs k kn (rs.getD p .dflt)=false:=by
   rw[←Bool.not_eq_true]
   have:=List.find?_eq_none.1 hnone rs[p] (List.getElem_mem (by omega))
   rwa[List.getD_eq_getElem?_getD,List.getElem?_eq_getElem (by omega)]
  unfold Zgk
  unfold Zbs at hno
  cases hS:Zdn S cs kn p
  ·cases hv:Zaj k (rs.getD p .dflt).xs
   ·rfl
   ·rw[h2 p hp hv hS];rfl
  ·obtain⟨a,b,c,d⟩:=h1 p hS
   rw[b,Bool.true_and]at hno
   rw[b,decide_eq_false d,hno];rfl
 unfold Zdi restL
 subst hl
 rw[←Zlm rs (Zgk k kn) fun r=>(dropL r.xs kn,txtL bs r.xs r.s)]
 have e1:((List.range rs.length).filter fun p=>Zdn S cs kn p)=((List.range rs.length).filter fun p=>Zgk k kn (rs.getD p .dflt)):=List.filter_congr fun p hp=>hq p (List.mem_range.1 hp)
 rw[e1]
 apply List.map_congr_left
 intro p hp
 rw[List.mem_filter,List.mem_range]at hp
 have:=h1 p (by rw[hq p hp.1];exact hp.2)
 show(dropL (cs p) kn,_)=_
 rw[this.2.2.1]
theorem ZmL{a:Option Addr}(h:RowsAt w a n rs)(hs:shortR rs):Good rs:=fun r hr=>by
 obtain⟨i,hi,rfl⟩:=List.mem_iff_getElem.1 hr
 have h1:=h.2.1 i (by rw[←h.1];exact hi)
 have h2:=hs i
 rw[List.getD_eq_getElem?_getD,List.getElem?_eq_getElem hi]at h1 h2
 exact⟨h1.2.1,h2.2⟩
def PlS(w wr:World)(v:PV)(K:Nat)(rs:List RV)(f:Nat→Nat×Nat)(gk:Nat)(S:Nat→Bool)(cs:Nat→List Nat)(kn:List Nat)(bs:List ByteArray):Prop:=
 ∃j,Run (K:Int) rs j kn bs∧K=gk+j∧PS wr w.heap.size v (sizeOfK (K:Int)) S f cs kn bs∧InvL (K:Int) rs v.n S cs kn∧Below w.heap.size w wr
def PeelR(w w':World)(k:Int)(rs:List RV)(a1:Option Addr)(m1 c1:Nat)(ts1:List RV)(a2:Option Addr)(m2 c2:Nat)(ts2:List RV):Prop:=
 ∃kn bs,PeelP k rs kn bs∧OwnS w' w.heap.size (.slice a1 m1 c1) ts1∧RowsIn w' ts1∧ts1.map core=toldTo k kn bs k.toNat∧OwnS w' w.heap.size (.slice a2 m2 c2) ts2∧RowsIn w' ts2∧ts2.map core=restL k rs kn bs∧Below w.heap.size w w'
theorem ZwS(K:Nat)(a:Option Addr)(n c:Nat)(rs:List RV)(w:World)(ht:Tab w)(hsz:0<sizeOfK (K:Int))(h:RowsAt w a n rs)(hs:shortR rs)(hn:n≤1048576):
  Calls Tryz.prog 237 #[.int .i64 (K:Int),.slice a n c] w fun e w'=> ∃a1 m1 c1 ts1 a2 m2 c2 ts2,e=.returned (.tuple #[.slice a1 m1 c1,.slice a2 m2 c2])∧PeelR w w' (K:Int) rs a1 m1 c1 ts1 a2 m2 c2 ts2:=by
 have hroom:=ZaC hsz
 have hK:K≤128:=by omega
 have hz2:=Zas (K:Int)
 have hg:=ZmL h hs
 have hsm:∀p,p<n→smalls (rs.getD p .dflt).xs:=fun p hp=>(h.2.1 p hp).2.1
 have HKN:=hide (fun(j:Nat) (kn:List Nat) (bs:List ByteArray) (hr:Run (K:Int) rs j kn bs)=>Run.known hsz hg hr)
 have HBE:=hide (Zsf K a n c rs w hsz h hs hn)
 have hne0:((sizeOfK (K:Int):Nat):Int)≠0:=by omega
 have hnb:(((sizeOfK (K:Int):Nat):Int)==0)=false:=by rw[beq_eq_false_iff_ne];exact hne0
 have HZ:=hide (Zcd (K:Int) w)
 have Hh:=hide h
 have Hs:=hide hs
 have HT:=hide ht
 have HSM:=hide hsm
 have HL:=hide h.1
 clear h hs ht hsm hg hroom hsz hne0
 generalize hzz:sizeOfK (K:Int)=zz at HZ hnb
 clear hzz
 go_enter Tryz.func237,Tryz.ntmps237
 go_wp2_with (first|(go_at_call 177;refine(unhide HZ).mono ?_;rintro e w9 ⟨rfl,hw9⟩;obtain rfl:=hw9.symm;clear hw9)|(go_at_call 276;refine(unhide HBE).mono ?_;rintro e w1 ⟨g,kg,bg,f,rfl,hp1,hb1⟩;have HP1:=hide hp1;have HB1:=hide hb1;clear hp1 hb1))
 go_loopg [7] K (fun gk _ wr=> ∃(S:Nat→Bool) (cs:Nat→List Nat) (kn:List Nat) (bs:List ByteArray),Hid (PlS w wr ⟨g,a,n,c,kg,sizeOfK (K:Int),bg,K,w.heap.size⟩ K rs f gk S cs kn bs))
 case atStart=>exact⟨_,_,_,_,hide ⟨0,⟨rfl,by rw[Int.toNat_natCast]⟩,by omega,unhide HP1,InvL.start _ _ _ _,unhide HB1⟩⟩
 case round=>
  obtain⟨S,cs,kn,bs,HPL⟩:=hrel
  obtain⟨j,hrun,hKj,hPS,hInv,hBw⟩:=unhide HPL
  have hKn:=unhide HKN j kn bs hrun
  have hbl:=hKn.lenb
  rw[Int.toNat_natCast]at hbl
  have hkl:=hKn.len
  have HNX:=hide (Zxv w.heap.size ⟨g,a,n,c,kg,sizeOfK (K:Int),bg,K,w.heap.size⟩ (sizeOfK (K:Int)) S f cs kn bs wr hPS hBw.size (by omega) (by omega) hn)
  have hRw:=(unhide Hh).below hBw
  have HIN:=hide hInv
  have HRN:=hide hrun
  have HBW:=hide hBw
  have HRW:=hide hRw
  have HKJ:=hide hKj
  have HKK:=hide hKn
  have hbs:=hide hKn.shorts
  clear HP1 HB1 hPS hInv hBw hrun hRw hKn HPL hKj
  go_wp2_with fail
  refine(unhide HNX).mono ?_
  rintro e w1 ⟨first,rfl,hp1,hb1,hf1,hf2,hf3⟩
  have hBw1:=(unhide HBW).trans hb1
  have HB1:=hide hBw1
  have HR1:=hide ((unhide Hh).below hBw1)
  have HT1:=hide ((unhide HT).below hBw1)
  have HP1:=hide hp1
  by_cases hlt:first<n
  ·obtain⟨hfd,htl⟩:=(unhide HIN).found (unhide HL) hlt (hf2 hlt) hf3
   obtain⟨hv,hbits,hk0,hx0,hbk,hfi⟩:=ZdH (unhide HSM first hlt) htl
   rw[Int.toNat_natCast]at hbk
   have hlS:Zdn S cs kn first=true:=by
    unfold Zdn
    rw[(hf2 hlt).1,(hf2 hlt).2];rfl
   have hsub:∀i,getB kn i=true→getB (setB kn (blkOf kn (rs.getD first .dflt)) true) i=true:=fun i hi=>by
    rw[ZcH _ _ _ _ (by have:=ZaC (unhide HKK).size;omega)]
    split
    ·rfl
    ·exact hi
   have HTE:=hide (Zwu w.heap.size ⟨g,a,n,c,kg,sizeOfK (K:Int),bg,K,w.heap.size⟩ (sizeOfK (K:Int)) (Zdn S cs kn) f (fun p=>dropL (cs p) kn) kn bs rs first (blkOf kn (rs.getD first .dflt)) w1 (unhide HT1) hp1 hBw1.size (unhide HR1) (unhide Hs) hn (unhide hbs) (by omega) (by omega) (by omega) hlS
    (by show firstI (dropL (cs first) kn)=_;rw[((unhide HIN).1 first (hf2 hlt).1).2.2];exact hfi) (by omega) (by have:=ZaC (unhide HKK).size;omega))
   have HI2:=hide ((unhide HIN).tell (unhide HSM) hsub)
   have HR2:=hide (show Run (K:Int) rs (j+1) _ _ from⟨kn,bs,_,unhide HRN,hfd,rfl,rfl⟩)
   have hdt:decide (first<n)=true:=decide_eq_true hlt
   rw[hdt]
   clear hfd htl hv hbits hk0 hx0 hbk hfi hlS hsub hdt hf1 hf2 hf3 hp1 hb1 hBw1 HNX
   go_wp2_with (go_at_call 280;refine(unhide HTE).mono ?_;rintro e w2 ⟨rfl,hp2,hb2⟩;have HP2:=hide hp2;have HB2:=hide ((unhide HB1).trans hb2);clear hp2 hb2)
   go_roundg (gk-1)
   case measure=>
    have:=(unhide HKN (j+1) _ _ (unhide HR2)).le
    rw[Int.toNat_natCast]at this
    have:=unhide HKJ
    omega
   case rel=>
    have h1:=(unhide HKN (j+1) _ _ (unhide HR2)).le
    rw[Int.toNat_natCast]at h1
    have h2:=unhide HKJ
    exact⟨_,_,_,_,hide ⟨j+1,unhide HR2,by omega,unhide HP2,unhide HI2,unhide HB2⟩⟩
  ·have hfn:first=n:=by omega
   have hnone:=(unhide HIN).nomore (unhide HL) (fun p hp hc=>by have:=hf3 p hp hc;omega)
   have HPP:=hide (show PeelP (K:Int) rs kn bs from⟨⟨j,unhide HRN⟩,hnone⟩)
   have HRE:=hide ((unhide HIN).rest (unhide HL) hnone bs)
   have HTD:=hide (ZwH w.heap.size ⟨g,a,n,c,kg,sizeOfK (K:Int),bg,K,w.heap.size⟩ kn bs w1 hp1.1 (by omega) (by omega))
   have HRS:=hide (fun w2 (hb2:Below w1.heap.size w1 w2)=>Zvk w.heap.size ⟨g,a,n,c,kg,sizeOfK (K:Int),bg,K,w.heap.size⟩ (sizeOfK (K:Int)) (Zdn S cs kn) f (fun p=>dropL (cs p) kn) kn bs rs w2 (hp1.below hb2) ((unhide HR1).below hb2) (unhide Hs) hn (unhide hbs) (by omega))
   rw[hbl]at HTD
   have hdt:decide (first<n)=false:=decide_eq_false hlt
   rw[hdt]
   clear hnone hdt hf1 hf2 hf3 hp1 hb1 hBw1 HNX hlt hfn HIN hbl hkl
   go_wp2_with (first|(go_at_call 278;refine(unhide HTD).mono ?_;rintro e w2 ⟨a1,m1,c1,ts1,rfl,hG1⟩;have HG1:=hide hG1;have HRX:=hide (unhide HRS w2 hG1.2.2.2.2);clear hG1)|(go_at_call 279;refine(unhide HRX).mono ?_;rintro e w3 ⟨a2,m2,c2,ts2,rfl,hG2⟩;have HG2:=hide hG2;clear hG2))
   go_ret2
   have g1:=unhide HG1
   have g2:=unhide HG2
   have hb3:=g2.2.2.2.2
   have hB1:=unhide HB1
   refine⟨a1,m1,c1,ts1,a2,m2,c2,ts2,rfl,kn,bs,unhide HPP,(g1.1.below hb3).mono hB1.size,g1.2.1.below hb3,?_,g2.1.mono (Nat.le_trans hB1.size g1.2.2.2.2.size),g2.2.1,?_,below0 (below0 hB1 g1.2.2.2.2) hb3⟩
   ·rw[Int.toNat_natCast];exact g1.2.2.2.1
   ·rw[←unhide HRE];exact g2.2.2.2.1
theorem ZbN(h:sizeOfK k=0):PeelP k rs [] (List.replicate k.toNat ByteArray.empty)∧toldTo k [] (List.replicate k.toNat ByteArray.empty) k.toNat=[]∧restL k rs [] (List.replicate k.toNat ByteArray.empty)=[]:=by
 have hv:∀xs,Zaj k xs=false:=fun xs=>by
  rw[←Bool.not_eq_true]
  intro hx
  have:=(Za7 hx).1
  omega
 refine⟨⟨⟨0,by rw[h];rfl,rfl⟩,?_⟩,?_,?_⟩
 ·rw[List.find?_eq_none]
  intro r _
  unfold Zbs
  rw[hv];simp
 ·unfold toldTo
  rw[List.filter_eq_nil_iff.2 (fun b _=>by rw[ZnY];simp)]
  rfl
 ·unfold restL
  rw[List.filter_eq_nil_iff.2 (fun r _=>by unfold Zgk;rw[hv];simp)]
  rfl
theorem Zxi(k:Int)(a:Option Addr)(n c:Nat)(rs:List RV)(w:World)(ht:Tab w)(h:RowsAt w a n rs)(hs:shortR rs)(hn:n≤1048576):
  Calls Tryz.prog 237 #[.int .i64 k,.slice a n c] w fun e w'=> ∃a1 m1 c1 ts1 a2 m2 c2 ts2,e=.returned (.tuple #[.slice a1 m1 c1,.slice a2 m2 c2])∧PeelR w w' k rs a1 m1 c1 ts1 a2 m2 c2 ts2:=by
 by_cases hz:sizeOfK k=0
 ·have HZ:=Zcd k w
  rw[hz]at HZ
  have HZ:=hide HZ
  obtain⟨h1,h2,h3⟩:=ZbN (rs:=rs) hz
  have HR:Hid (PeelR w w k rs none 0 0 [] none 0 0 []):=hide ⟨_,_,h1,OwnS.nil _ _,RowsIn.nil _,h2.symm,OwnS.nil _ _,RowsIn.nil _,h3.symm,Below.refl _ _⟩
  clear h hs ht h1 h2 h3 hz
  go_enter Tryz.func237,Tryz.ntmps237
  go_wp2_with (first|(go_at_call 177;refine(unhide HZ).mono ?_;rintro e w9 ⟨rfl,hw9⟩;obtain rfl:=hw9.symm;clear hw9))
  go_ret2
  exact⟨none,0,0,[],none,0,0,[],rfl,unhide HR⟩
 ·have hpos:0<sizeOfK k:=by omega
  have hroom:=ZaC hpos
  obtain⟨K,rfl⟩:=Int.eq_ofNat_of_zero_le (show 0≤k by omega)
  exact ZwS K a n c rs w ht hpos h hs hn
def TextsW(w:World)(g:Nat)(ss:List ByteArray):Prop:=∀i,i<ss.length→w.cell? ⟨g,i,none⟩=some (.string (ss.getD i ByteArray.empty))∧w.frozen? ⟨g,i,none⟩=false
theorem TextsW.texts(h:TextsW w g ss):TextsAt w (some ⟨g,0,none⟩) ss.length ss:=
 ⟨rfl,.inr ⟨g,0,rfl,fun i hi=>by rw[Nat.zero_add];exact(h i hi).1⟩⟩
theorem TextsW.alloc(h:TextsW w g ss)(hg:g<w.heap.size)(o:Obj):TextsW (w.alloc o) g ss:=fun i hi=>
 ⟨(World.cell?_alloc_lt (h:=by exact hg) ..).trans (h i hi).1,(World.frozen?_alloc_old (h:=by exact Nat.ne_of_lt hg) ..).trans (h i hi).2⟩
theorem ZiM(ss:List ByteArray)(k i:Nat)(z:ByteArray)(hk:k<ss.length):(ss.set k z).getD i ByteArray.empty=if i=k then z else ss.getD i ByteArray.empty:=by
 simp only[List.getD_eq_getElem?_getD,List.getElem?_set]
 by_cases h:k=i
 ·subst h;simp[hk]
 ·simp[h,Ne.symm h]
theorem TextsW.stored(h:TextsW w g ss)(k:Nat)(z:ByteArray)(hk:k<ss.length):TextsW (w.setCell ⟨g,k,none⟩ (.string z)) g (ss.set k z):=by
 intro i hi
 rw[List.length_set]at hi
 refine⟨?_,by rw[World.frozen?_setCell];exact(h i hi).2⟩
 rw[ZiM ss k i z hk]
 by_cases e:i=k
 ·subst e
  rw[if_pos rfl]
  exact World.cell?_setCell_same _ _ _ (h i hi).1
 ·rw[if_neg e]
  have h0:(⟨g,k,none⟩:Addr)≠⟨g,i,none⟩:=fun h=>e (by injection h with _ h;exact h.symm)
  exact(World.cell?_setCell_other (h:=h0) ..).trans (h i hi).1
def datK(rs:List RV)(k:Nat):List ByteArray:=(List.range rs.length).map fun i=>if i<k then(rs.getD i .dflt).s else ByteArray.empty
theorem ZaZ(rs:List RV)(k:Nat):(datK rs k).length=rs.length:=by simp[datK]
theorem ZeZ(rs:List RV)(k i:Nat):(datK rs k).getD i ByteArray.empty=if i<k∧i<rs.length then(rs.getD i .dflt).s else ByteArray.empty:=by
 unfold datK
 rw[List.getD_eq_getElem?_getD]
 by_cases hi:i<rs.length
 ·simp[hi]
 ·simp[hi]
theorem ZAq{a b:List ByteArray}(hl:a.length=b.length)(h:∀i,i<a.length→a.getD i ByteArray.empty=b.getD i ByteArray.empty):a=b:=by
 apply List.ext_getElem hl
 intro i h1 h2
 have:=h i h1
 simpa [List.getD_eq_getElem?_getD,List.getElem?_eq_getElem h1,List.getElem?_eq_getElem h2]using this
theorem ZrH(rs:List RV)(k:Nat)(hk:k<rs.length):(datK rs k).set k (rs.getD k .dflt).s=datK rs (k+1):=by
 apply ZAq
 ·rw[List.length_set,ZaZ,ZaZ]
 ·intro i hi
  rw[List.length_set,ZaZ]at hi
  rw[ZiM _ _ _ _ (by rw[ZaZ];exact hk),ZeZ,ZeZ]
  by_cases e:i=k
  ·subst e;simp[hi]
  ·rw[if_neg e]
   by_cases h2:i<k
   ·rw[if_pos ⟨h2,hi⟩,if_pos ⟨by omega,hi⟩]
   ·rw[if_neg (by omega),if_neg (by omega)]
theorem Zwi(rs:List RV):datK rs rs.length=rs.map fun r=>r.s:=by
 apply ZAq
 ·simp[ZaZ]
 ·intro i hi
  rw[ZaZ]at hi
  rw[ZeZ,if_pos ⟨hi,hi⟩]
  simp[List.getD_eq_getElem?_getD,List.getElem?_eq_getElem hi]
theorem ZqU{wr:World}{g0 k:Nat}{x y u v:Value}(hT:TextsW wr g (datK rs k))(hk:k<rs.length)(hg:g<wr.heap.size)(hX:BoxW wr g0 x y)(hne:g≠g0)(hb:Below w.heap.size w wr)(hgw:w.heap.size≤g):
  TextsW ((wr.setCell ⟨g,k,none⟩ (.string (rs.getD k .dflt).s)).alloc (.cells #[u,v] 57)) g (datK rs (k+1))∧
  BoxW ((wr.setCell ⟨g,k,none⟩ (.string (rs.getD k .dflt).s)).alloc (.cells #[u,v] 57)) g0 x y∧
  Below w.heap.size w ((wr.setCell ⟨g,k,none⟩ (.string (rs.getD k .dflt).s)).alloc (.cells #[u,v] 57))∧
  g<((wr.setCell ⟨g,k,none⟩ (.string (rs.getD k .dflt).s)).alloc (.cells #[u,v] 57)).heap.size:=by
 have hb1:=hb.setCell (p:=⟨g,k,none⟩) (by exact hgw) (.string (rs.getD k .dflt).s)
 refine⟨?_,(hX.other _ _ hne).alloc _,hb1.alloc hb1.size _,by simp;omega⟩
 rw[←ZrH rs k hk]
 exact(hT.stored k _ (by rw[ZaZ];exact hk)).alloc (by simpa using hg) _
theorem ZvU:(Tryz.prog.info? 9).map (fun i=>(i.zero,i.size,i.bytes))=some (some (.string ByteArray.empty),1,16):=by kernel_rfl
theorem ZlU(w:World)(n:Nat)(rs:List RV)(hn:rs.length=n):TextsW (w.alloc (.cells (madeCells (Value.string ByteArray.empty).cells (n*1)) 9)) w.heap.size (datK rs 0):=by
 intro i hi
 rw[ZaZ]at hi
 refine⟨?_,by simp⟩
 rw[World.cell?_alloc_new,ZeZ,if_neg (by omega)]
 rw[show(Value.string ByteArray.empty).cells=#[Value.string ByteArray.empty] from rfl,←Array.getElem?_toList,toList_madeCells_one,Nat.mul_one]
 simp[show i<n from by omega]
theorem Zy7(a:Option Addr)(n c:Nat)(rs:List RV)(w:World)(h:RowsAt w a n rs)(hs:shortR rs)(hn:n≤1048576)(hc:n≤c)(hcc:c≤9223372036854775807):
  Calls Tryz.prog 300 #[.slice a n c] w fun e w'=> ∃v,e=.returned (.agg #[v,.string (st (sumL (rs.map fun r=>r.s)))])∧Own w' w.heap.size v (vecL rs)∧Below w.heap.size w w':=by
 obtain rfl:=h.1
 obtain⟨i0,hi0,hz0,hz1,hz2⟩:=info_parts ZvU
 have hrun:=run_make (P:=Tryz.prog) (w.alloc (.cells #[.slice none 0 0,.string ⟨#[]⟩] 57)) 50 9 i0 (.string ByteArray.empty) Tryz.underlying50 hi0 hz0 .i64 .i64 (rs.length:Int) (rs.length:Int) (by omega) (by omega) (by rw[hz2];omega) (by omega)
 simp only[Int.toNat_natCast]at hrun
 rw[hz1]at hrun
 have hX:=(Zd0 w (.slice none 0 0) (.string ⟨#[]⟩)).alloc (.cells (madeCells (Value.string ByteArray.empty).cells (rs.length*1)) 9)
 have hT:=ZlU (w.alloc (.cells #[.slice none 0 0,.string ⟨#[]⟩] 57)) rs.length rs rfl
 have hb:=Zel (Below.refl _ w) (Below.refl ((w.alloc (.cells #[.slice none 0 0,.string ⟨#[]⟩] 57)).alloc (.cells (madeCells (Value.string ByteArray.empty).cells (rs.length*1)) 9)).heap.size _)
 have hgs:(w.alloc (.cells #[.slice none 0 0,.string ⟨#[]⟩] 57)).heap.size<((w.alloc (.cells #[.slice none 0 0,.string ⟨#[]⟩] 57)).alloc (.cells (madeCells (Value.string ByteArray.empty).cells (rs.length*1)) 9)).heap.size:=by simp
 rw[Zab]at hrun hT hgs
 generalize ((w.alloc (.cells #[.slice none 0 0,.string ⟨#[]⟩] 57)).alloc (.cells (madeCells (Value.string ByteArray.empty).cells (rs.length*1)) 9))=w1 at*
 have HX:=hide hX
 have HT:=hide hT
 have HB:=hide hb
 have HG:=hide hgs
 clear hX hT hb hgs hi0 hz0 hz1 hz2
 go_enter Tryz.func300,Tryz.ntmps300
 go_wp2
 go_loopw [11] (fun i wr=> ∃k:Nat,k≤rs.length∧i=.int .i64 k∧Hid (TextsW wr (w.heap.size+1) (datK rs k))∧Hid (BoxW wr w.heap.size (.slice none 0 0) (.string ⟨#[]⟩))∧Hid (Below w.heap.size w wr)∧Hid (w.heap.size+1<wr.heap.size)) (fun i _=>rs.length-(intOf i).toNat)
 case atStart=>exact⟨0,Nat.zero_le _,rfl,HT,HX,HB,HG⟩
 case round=>
  obtain⟨k,hk,rfl,HT',HX',HB',HG'⟩:=hrel
  clear HT HX HB HG hrun
  by_cases hlt:k<rs.length
  ·obtain⟨b,off,rfl,hcl⟩:=(h.below (unhide HB')).at hlt
   obtain⟨hc0,hc1⟩:=hcl k hlt
   have hlt':(k:Int)<(rs.length:Int):=by omega
   have R:=hide (ZqU (u:=.slice (rs.getD k .dflt).a (rs.getD k .dflt).n (rs.getD k .dflt).c) (v:=.string (rs.getD k .dflt).s) (unhide HT') hlt (unhide HG') (unhide HX') (by omega) (unhide HB') (by omega))
   have hold:=(unhide HT') k (by rw[ZaZ];exact hlt)
   obtain⟨hcd,hfd⟩:=hold
   have hgs:=unhide HG'
   have Hh:=hide h
   have Hs:=hide hs
   clear h hcl hs HT' HX' HB' HG'
   generalize rs.getD k .dflt=r at*
   go_wp2
   go_roundw
   case rel=>exact⟨k+1,by omega,by go_num,hide (unhide R).1,hide (unhide R).2.1,hide (unhide R).2.2.1,hide (unhide R).2.2.2⟩
   case measure=>simp[intOf];omega
  ·have hke:k=rs.length:=by omega
   subst hke
   rw[Zwi]at HT'
   have HR:=hide (h.below (unhide HB'))
   have HS:Hid (∀r∈rs,r.xs.length≤10):=hide (fun r hr=>by
    obtain⟨i,hi,rfl⟩:=List.mem_iff_getElem.1 hr
    have h1:=(hs i).1
    have h2:=(h.2.1 i hi).1
    rw[List.getD_eq_getElem?_getD,List.getElem?_eq_getElem hi]at h1 h2
    simp only[Option.getD_some]at h1 h2
    omega)
   have HS2:Hid (shorts (rs.map fun r=>r.s)):=hide (fun t ht=>by
    obtain⟨r,hr,rfl⟩:=List.mem_map.1 ht
    obtain⟨i,hi,rfl⟩:=List.mem_iff_getElem.1 hr
    have h1:=(hs i).2
    rw[List.getD_eq_getElem?_getD,List.getElem?_eq_getElem hi]at h1
    simp only[Option.getD_some]at h1
    omega)
   have hlm:Hid ((rs.map fun r=>r.s).length=rs.length):=hide (by simp)
   clear h hs hlt
   go_wp2_with fail
   refine(Zw1 rs.length a rs.length c rs _ (Nat.le_refl _) (unhide HR) (unhide HS) hn hc hcc).mono ?_
   rintro e w2 ⟨v2,rfl,ho2,hb2⟩
   obtain⟨a2,c2,rfl,hr2⟩:=ho2.row
   clear hr2
   have ht2:=(unhide HT').texts.below hb2
   rw[unhide hlm]at ht2
   have HT2:=hide ht2
   have HX2:=hide ((unhide HX').below hb2)
   have HB2:=hide (below0 (unhide HB') hb2)
   have HO2:=hide (ho2.mono (show w.heap.size+1≤_ from by have:=unhide HG';omega))
   clear ho2 hb2 ht2 HT' HX' HB' HR
   go_wp2_with fail
   refine(Ztl _ _ _ _ _ (unhide HT2) (unhide HS2) hn).mono ?_
   rintro e w3 ⟨rfl,hb3⟩
   obtain⟨⟨x0,x1⟩,f0,f1⟩:=(unhide HX2).below hb3
   have HB3:=hide (below0 (unhide HB2) hb3)
   have HO3:=hide ((unhide HO2).below hb3)
   clear HX2 HT2 HB2 HO2 hb3
   go_wp2
   have y1:=World.cell?_setCell_same (w3.setCell ⟨w.heap.size,0,none⟩ (.slice a2 (vecL rs).length c2)) ⟨w.heap.size,1,none⟩ (.string (st (sumL (rs.map fun r=>r.s)))) ((World.cell?_setCell_other (h:=by simp) ..).trans x1)
   have y0:((w3.setCell ⟨w.heap.size,0,none⟩ (.slice a2 (vecL rs).length c2)).setCell ⟨w.heap.size,1,none⟩ (.string (st (sumL (rs.map fun r=>r.s))))).cell? ⟨w.heap.size,0,none⟩=some (.slice a2 (vecL rs).length c2):=
    (World.cell?_setCell_other (h:=by simp) ..).trans (World.cell?_setCell_same _ _ _ x0)
   exact bodyPost_ret (v:=.agg #[.slice a2 (vecL rs).length c2,.string (st (sumL (rs.map fun r=>r.s)))]) (by simp[results,Tryz.results300,go_sem,y0,y1]) rfl
    ⟨_,rfl,(((unhide HO3).other _ _ (by omega)).other _ _ (by omega)).mono (by omega),((unhide HB3).setCell (Nat.le_refl _) _).setCell (Nat.le_refl _) _⟩
end Go.Proofs.YtlhhinlghhjghaaGreatDoor
