/-
  Slices of links and of flights of one's own that grow; slices.Clone of no ints. No condition.
  A struct of many cells as a whole: its load and its store as steps of a walk. No condition.
  Contracts of decoder.New, objectOf, must, begin, admit.
-/
import Derived.Test.YtlhhinlghhjghaaGreatDoorU34
import Derived.Test.YtlhhinlghhjghaaGreatDoorU21
import Derived.Test.YtlhhinlghhjghaaGreatDoorU25
import Derived.Test.YtlhhinlghhjghaaGreatDoorU13
import Derived.Deep.MidRow
import Derived.Test.YtlhhinlghhjghaaGreatDoorU33
import Derived.Test.YtlhhinlghhjghaaGreatDoorU16
import Derived.Laws.StructEq
import Derived.WalkLawsBesides
namespace Go.Proofs.YtlhhinlghhjghaaGreatDoor
open Go.RowKit Go.Sort
set_option linter.unusedVariables false
set_option linter.unusedSimpArgs false
set_option maxRecDepth 4000
set_option maxHeartbeats 8000000
variable {B:Nat}{v:Value}{w:World}
theorem ZpM:(Tryz.prog.info? 114).map (fun i=>(i.zero,i.size,i.bytes))=some (some (.pointer none),1,8):=by kernel_rfl
theorem OwnL.below{w':World}{ls:List LkV}(h:OwnL w B v ls)(hb:Below w.heap.size w w'):OwnL w' B v ls:=Zam (F:=fun _=>False) h (Tu.of_below hb) fun _ _=>id
theorem ZkB{ops:Array Oper}{o:Oper}{a:Act}{K:Act→World→Prop}{Q:Exit→Act→World→Prop}{E:Prop}(hgd:o.guard=none)(s x:Operand)
  (ho:o.op=.call {callee:=.builtin .append,args:=#[s,x],argTypes:=#[97,97]}) (B:Nat) (v:Value) (ls:List LkV) (l:LkV) (hs:a.eval s=v) (hown:OwnL w B v ls) (b:Nat)
  (hx:a.eval x=.slice (some ⟨b,0,none⟩) 1 1) (hb:w.heap[b]? =some (.cells #[.pointer (some ⟨l.g,0,none⟩)] 114 (0,0))) (hn:ls.length≤1000000) (hB:B≤w.heap.size)
  (h:∀g cap w',OwnL w' B (.slice (some ⟨g,0,none⟩) (ls.length+1) cap) (ls++[l])→w.grownBy w' v.ownBlock→K (a.put o.dst (.slice (some ⟨g,0,none⟩) (ls.length+1) cap)) w'):
  if Region.wanted o (yielded ops a.tmps)=true then Oper.wp Tryz.prog o a w K Q else E:=by
 obtain⟨i0,hi,hz0,hz1,hz2⟩:=info_parts ZpM
 refine step_append_lies w hgd s x 97 ho B 114 i0 (.pointer none) 1 8 Tryz.underlying97 hi hz0 hz1 hz2 rfl (by decide) v ls.length (ZcR ls) hs hown ⟨b,0,none⟩ 1 1 [.pointer (some ⟨l.g,0,none⟩)] hx rfl
  (World.news_of_block hb) (fun u hu=>by rw[List.mem_singleton.1 hu];rfl) (by decide) (by unfold maxLen;omega) (by omega) hB _ rfl (fun g cap w' h2 h3 h4 _=>h g cap w' ?_ h3)
 show w'.ownsRow B 114 1 _ (ls++[l]).length (ZcR (ls++[l]))
 rw[List.length_append,show ZcR (ls++[l])=ZcR ls++[.pointer (some ⟨l.g,0,none⟩)] by simp[ZcR]]
 exact h2
theorem ZvM:(Tryz.prog.info? 82).map (fun i=>(i.zero,i.size,i.bytes))=some (some (.agg #[.int .i64 0,.int .i64 0,.string ByteArray.empty]),3,32):=by kernel_rfl
structure FLV where
 fr:Int
 dst:Int
 s:ByteArray
def FLV.dflt:FLV:=⟨0,0,⟨#[]⟩⟩
def FLV.cells(f:FLV):List Value:=[.int .i64 f.fr,.int .i64 f.dst,.string f.s]
def Zem(fs:List FLV):List Value:=fs.flatMap FLV.cells
theorem ZiT:∀(fs:List FLV) (i j:Nat),i<fs.length→j<3→(Zem fs)[i*3+j]? =(fs.getD i .dflt).cells[j]?
 |[],i,j,h,_=>by simp at h
 |p::ps,0,j,_,hj=>by
  show(p.cells++Zem ps)[0*3+j]? =_
  rw[Nat.zero_mul,Nat.zero_add,List.getElem?_append_left (by show j<3;exact hj)]
  rfl
 |p::ps,i+1,j,h,hj=>by
  have:=ZiT ps i j (by simpa using h) hj
  show(p.cells++Zem ps)[(i+1)*3+j]? =_
  rw[List.getElem?_append_right (by show 3≤_;omega),show(i+1)*3+j-p.cells.length=i*3+j from by show(i+1)*3+j-3=_;omega,this]
  rfl
def OwnG(w:World)(B:Nat)(v:Value)(fs:List FLV):Prop:=w.ownsRow B 82 3 v fs.length (Zem fs)
theorem OwnG.nil(w:World)(B:Nat):OwnG w B (.slice none 0 0) []:=World.ownsRow_nil _ _ _ _
theorem OwnG.below{w':World}{fs:List FLV}(h:OwnG w B v fs)(hb:Below w.heap.size w w'):OwnG w' B v fs:=Zam (F:=fun _=>False) h (Tu.of_below hb) fun _ _=>id
theorem OwnG.len{fs:List FLV}(h:OwnG w B v fs):∃a c,v=.slice a fs.length c:=by
 rcases h.2 with⟨rfl,h0⟩|⟨g,cap,cur,rfl,_⟩
 ·exact⟨none,0,by rw[h0]⟩
 ·exact⟨_,_,rfl⟩
theorem OwnG.at{fs:List FLV}(h:OwnG w B v fs)(hn:0<fs.length):∃g cap,v=.slice (some ⟨g,0,none⟩) fs.length cap∧∀i,i<fs.length→w.cell? ⟨g,i*3,none⟩=some (.int .i64 (fs.getD i .dflt).fr)∧w.cell? ⟨g,i*3+1,none⟩=some (.int .i64 (fs.getD i .dflt).dst)∧w.cell? ⟨g,i*3+2,none⟩=some (.string (fs.getD i .dflt).s):=by
 have ho':w.ownsRow B 82 3 v fs.length (Zem fs):=h
 rcases h.2 with⟨rfl,h0⟩|⟨g,cap,cur,rfl,hb,hg,hn,hm,hsz,ht⟩
 ·omega
 ·refine⟨g,cap,rfl,fun i hi=>?_⟩
  have hc:∀j,j<3→∀u,(fs.getD i .dflt).cells[j]? =some u→w.cell? ⟨g,i*3+j,none⟩=some u:=fun j hj u hu=>by
   have:=World.ownsRow.cells ho' (g:=g) rfl (i*3+j) u (by rw[ZiT fs i j hi hj];exact hu)
   rwa[show(⟨g,0,none⟩:Addr).add (i*3+j)=⟨g,i*3+j,none⟩ by unfold Addr.add;split<;>simp_all]at this
  exact⟨hc 0 (by decide) _ rfl,hc 1 (by decide) _ rfl,hc 2 (by decide) _ rfl⟩
theorem Zph(w:World):Calls Tryz.prog 57 #[.slice none 0 0] w fun e w'=>e=.returned (.slice none 0 0)∧w'=w:=by
 have hnil:=fun wx=>Lib.run_eql_slice_nil (P:=Tryz.prog) wx 83 3 none 0 0 0 0 Tryz.underlying83
 go_enter Tryz.func57,Tryz.ntmps57
 go_wp2
 go_ret
 exact⟨rfl,rfl⟩
end Go.Proofs.YtlhhinlghhjghaaGreatDoor
namespace Go.Proofs.YtlhhinlghhjghaaGreatDoor
open Go.RowKit
set_option linter.unusedVariables false
set_option linter.unusedSimpArgs false
set_option maxRecDepth 4000
set_option maxHeartbeats 8000000
variable {a:Act}{aft:Array Edge}{ops:Array Oper}{Q:Exit→Act→World→Prop}{rest:List Oper}{cs:List Value}{g:Nat}{dst:Option Tmp}{pos:String}{typ T:TypeId}{w:World}
theorem Zms(T:TypeId){n:Nat}{d:TypeDesc}(hu:Tryz.prog.underlying T=some d)(hd:d.isRow=true)(hi:(Tryz.prog.info? T).map (·.size)=some n)(x:Tmp)(D:Nat)(cs:List Value)(hx:a.eval (.tmp x)=.pointer (some ⟨D,0,none⟩))(hb:BkA T w D cs)(hl:cs.length=n)
  (h:wpList Tryz.prog ops Q rest (a.put dst (.agg cs.toArray)) w):wpList Tryz.prog ops Q ({dst:=dst,op:=.load T (.tmp x),type:=typ,pos:=pos,after:=aft,guard:=none}::rest) a w:=
 wpList_load_mid rfl T (.tmp x) rfl D 0 hx cs _ (fun j v hv=>by rw[Nat.zero_add];exact hb.at j hv) hu hd (by rw[hl];exact hi) h
theorem Zfg(T:TypeId){n:Nat}(hi:(Tryz.prog.info? T).map (·.size)=some n)(x y:Tmp)(R:Nat)(cs us:List Value)(hx:a.eval (.tmp x)=.pointer (some ⟨R,0,none⟩))(hy:a.eval (.tmp y)=.agg us.toArray)(hb:BkA T w R cs)(hc:cs.length=n)(hl:us.length=n)(h1:∀u∈us,u.oneCell'=true)
  (h:∀w',BkA T w' R us→Tu (fun j=>j=R) w w'→wpList Tryz.prog ops Q rest (a.put dst undef) w'):wpList Tryz.prog ops Q ({dst:=dst,op:=.store T (.tmp x) (.tmp y),type:=typ,pos:=pos,after:=aft,guard:=none}::rest) a w:=by
 refine wpList_store_mid rfl T (.tmp x) (.tmp y) rfl R 0 us.toArray hx hy (fun j hj=>?_) (by rw[List.size_toArray,hl];exact hi) (all_oneCell_toArray h1) (h _ (hb.setAll (by show us.length=cs.length;omega)) (Tu.of_gb (Zbf R us 0 w) fun j _ e=>(Option.some.inj e).symm))
 rw[List.size_toArray]at hj
 obtain⟨u,hu⟩:∃u,cs[j]? =some u:=⟨cs[j]'(by omega),List.getElem?_eq_getElem (by omega)⟩
 rw[Nat.zero_add]
 exact⟨by rw[hb.at j hu];rfl,hb.frz j⟩
theorem BkA.load{n:Nat}{d:TypeDesc}(h:BkA T w g cs)(hu:Tryz.prog.underlying T=some d)(hd:d.isRow=true)(hi:(Tryz.prog.info? T).map (·.size)=some n)(hl:cs.length=n):(loadVar T ⟨g,0,none⟩).run Tryz.prog w=.ok (.agg cs.toArray) w:=
 run_loadVar_mid (P:=Tryz.prog) w g 0 T cs _ (fun j v hv=>by rw[Nat.zero_add];exact h.at j hv) hu hd (by rw[hl];exact hi)
theorem Tu.cell{F:Nat→Prop}{w':World}(h:Tu F w w'){p:Addr}{v:Value}(hp:w.cell? p=some v)(hF:¬F p.block):w'.cell? p=some v:=
 (World.cell?_of_block (w:=w) (h.block p.block (World.block_lt_of_cell? w p hp) hF)).trans hp
theorem BkA.setMid{o:Nat}{us:List Value}(h:BkA T w g cs)(hl:o+us.length≤cs.length):BkA T (w.setCells g o us) g (cs.take o++us++cs.drop (o+us.length)):=by
 obtain⟨cur,h1,h2,h3⟩:=ZaM g T us o w cs.toArray h
 unfold BkA
 rw[h1]
 have:cur=(cs.take o++us++cs.drop (o+us.length)).toArray:=by
  apply Array.ext_getElem?
  intro j
  by_cases hj:j<cs.length
  ·rw[h3 j (by simpa using hj)]
   simp only[List.getElem?_toArray,List.append_assoc]
   by_cases h4:j<o
   ·rw[if_neg (by omega),List.getElem?_append_left (by rw[List.length_take];omega),List.getElem?_take,if_pos h4]
   ·rw[List.getElem?_append_right (by rw[List.length_take];omega),List.length_take,Nat.min_eq_left (by omega)]
    by_cases h5:j<o+us.length
    ·rw[if_pos (by omega),List.getElem?_append_left (by omega)]
    ·rw[if_neg (by omega),List.getElem?_append_right (by omega),List.getElem?_drop,show o+us.length+(j-o-us.length)=j by omega]
  ·rw[Array.getElem?_eq_none (by rw[h2];simpa using hj),Array.getElem?_eq_none (by simp;omega)]
 rw[this]
theorem BkA.there{o n:Nat}(h:BkA T w g cs)(hl:o+n≤cs.length):w.there g o n:=fun j hj=>by
 obtain⟨u,hu⟩:∃u,cs[o+j]? =some u:=⟨cs[o+j]'(by omega),List.getElem?_eq_getElem (by omega)⟩
 exact⟨by rw[h.at (o+j) hu];rfl,h.frz (o+j)⟩
theorem Zih{p:Oper}{K:Act→World→Prop}{E:Prop}(hgd:p.guard=none)(T T':TypeId){n:Nat}(hi:(Tryz.prog.info? T).map (·.size)=some n)(x y:Operand)(ho:p.op=.store T x y)(R o:Nat)(cs us:List Value)
  (hx:a.eval x=.pointer (some ⟨R,o,none⟩)) (hy:a.eval y=.agg us.toArray) (hb:BkA T' w R cs) (hl:us.length=n) (hc:o+us.length≤cs.length) (h1:∀u∈us,u.oneCell'=true)
  (h:∀w',BkA T' w' R (cs.take o++us++cs.drop (o+us.length))→Tu (fun j=>j=R) w w'→K (a.put p.dst undef) w'):
  if Region.wanted p (yielded ops a.tmps)=true then Oper.wp Tryz.prog p a w K Q else E:=by
 have hw:Region.wanted p (yielded ops a.tmps)=true:=by simp[Region.wanted,hgd]
 rw[if_pos hw]
 exact wp_store_mid T x y ho R o us.toArray hx hy (by rw[List.size_toArray];exact hb.there hc) (by rw[List.size_toArray,hl];exact hi) (all_oneCell_toArray h1) (h _ (hb.setMid hc) (Tu.of_gb (Zbf R us o w) fun j _ e=>(Option.some.inj e).symm))
theorem Zh4(T T':TypeId){n:Nat}(hi:(Tryz.prog.info? T).map (·.size)=some n)(x y:Tmp)(R o:Nat)(cs us:List Value)(hx:a.eval (.tmp x)=.pointer (some ⟨R,o,none⟩))(hy:a.eval (.tmp y)=.agg us.toArray)(hb:BkA T' w R cs)(hl:us.length=n)(hc:o+us.length≤cs.length)(h1:∀u∈us,u.oneCell'=true)
  (h:∀w',BkA T' w' R (cs.take o++us++cs.drop (o+us.length))→Tu (fun j=>j=R) w w'→wpList Tryz.prog ops Q rest (a.put dst undef) w'):wpList Tryz.prog ops Q ({dst:=dst,op:=.store T (.tmp x) (.tmp y),type:=typ,pos:=pos,after:=aft,guard:=none}::rest) a w:=
 wpList_store_mid rfl T (.tmp x) (.tmp y) rfl R o us.toArray hx hy (by rw[List.size_toArray];exact hb.there hc) (by rw[List.size_toArray,hl];exact hi) (all_oneCell_toArray h1) (h _ (hb.setMid hc) (Tu.of_gb (Zbf R us o w) fun j _ e=>(Option.some.inj e).symm))
end Go.Proofs.YtlhhinlghhjghaaGreatDoor
namespace Go.Proofs.YtlhhinlghhjghaaGreatDoor
open Go.RowKit Go.Sort
set_option linter.unusedVariables false
set_option linter.unusedSimpArgs false
set_option maxRecDepth 4000
set_option maxHeartbeats 8000000
theorem Zth(M:Int)(w:World):
  Calls Tryz.prog 63 #[.int .i64 M] w fun e w'=>e=.returned (.pointer (some ⟨w.heap.size,0,none⟩))∧DcAt w' w.heap.size w.heap.size M zDS w.heap.size (.slice none 0 0) []∧Below w.heap.size w w':=by
 go_enter Tryz.func63,Tryz.ntmps63
 go_wp2
 go_ret
 exact⟨rfl,ZAE w M,(Below.refl _ _).alloc (Nat.le_refl _) _⟩
theorem ZeW(t:ByteArray)(w:World):Calls Tryz.prog 132 #[.bool true,.string t] w fun e w'=>e=.returned (.tuple #[])∧w'=w:=by
 go_enter Tryz.func132,Tryz.ntmps132
 go_wp2
 go_end0
 exact⟨rfl,rfl⟩
theorem ZjP(t:ByteArray)(w:World):Calls Tryz.prog 132 #[.bool false,.string t] w fun e w'=>e=.panicked [{v:=.iface 9 (.string t),recovered:=false}]∧w'=w:=by
 go_enter Tryz.func132,Tryz.ntmps132
 go_wp2
 exact⟨rfl,rfl,rfl⟩
theorem ZfH(o l k z h:Int)(x y:Value)(w:World):
  Calls Tryz.prog 134 #[.agg #[.int .i64 o,.int .i64 l,.int .i64 k,.int .i64 z,.int .i64 h,x,y]] w fun e w'=>e=.returned (.agg #[.int .i64 o,.int .i64 l,.int .i64 k,.int .i64 z])∧Below w.heap.size w w':=by
 go_enter Tryz.func134,Tryz.ntmps134
 go_wp2
 exact bodyPost_ret (v:=.agg #[.int .i64 o,.int .i64 l,.int .i64 k,.int .i64 z]) (by simp[results,Tryz.results134,go_sem]) rfl ⟨rfl,((Below.refl _ _).alloc (Nat.le_refl _) _).alloc (by simp) _⟩
theorem Zx8(o l k z o' l' k' z':Int)(W:World):
  (binOp .eql 176 (.agg #[.int .i64 o,.int .i64 l,.int .i64 k,.int .i64 z]) (.agg #[.int .i64 o',.int .i64 l',.int .i64 k',.int .i64 z'])).run Tryz.prog W=.ok (.bool (decide (o=o'∧l=l'∧k=k'∧z=z'))) W:=by
 rw[run_eql_struct,run_equalIn_struct (d:=9999) (ht:=by kernel_rfl) (hp:=by kernel_rfl)]
 simp only[Program.fieldsOf,Tryz.underlying176]
 by_cases h1:o=o'
 ·by_cases h2:l=l'
  ·by_cases h3:k=k'
   ·by_cases h4:z=z'
    ·simp[Op.eqFields,part,go_sem,Tryz.underlying3,h1,h2,h3,h4]
    ·simp[Op.eqFields,part,go_sem,Tryz.underlying3,h1,h2,h3,h4]
   ·simp[Op.eqFields,part,go_sem,Tryz.underlying3,h1,h2,h3]
  ·simp[Op.eqFields,part,go_sem,Tryz.underlying3,h1,h2]
 ·simp[Op.eqFields,part,go_sem,Tryz.underlying3,h1]
theorem ZpN(g B:Nat)(M:Int)(p:PKV)(w:World)(h:DcAt w g B M zDS g (.slice none 0 0) [])(hp:okB p=true):
  Calls Tryz.prog 133 #[.pointer (some ⟨g,0,none⟩),.agg #[.int .i64 p.o,.int .i64 p.l,.int .i64 p.k,.int .i64 p.z,.int .i64 p.h,.slice p.r.a p.r.n p.r.c,.string p.r.s]] w fun e w'=>
   e=.returned (.tuple #[])∧∃gs,DcAt w' g B M (begS zDS p) gs (.slice none 0 0) []∧Tu (fun j=>j=g) w w'∧w.heap.size≤gs:=by
 have hb0:=alloc_low w (.cells #[.int .i64 p.o,.int .i64 p.l,.int .i64 p.k,.int .i64 p.z,.int .i64 p.h,.slice p.r.a p.r.n p.r.c,.string p.r.s] 59)
 have hx:=Zag 59 w [.int .i64 p.o,.int .i64 p.l,.int .i64 p.k,.int .i64 p.z,.int .i64 p.h,.slice p.r.a p.r.n p.r.c,.string p.r.s]
 have hq:=h.blk.below hb0
 have hlo:=h.lo
 have hgw:=h.lt
 have hne:some w.heap.size≠some g:=fun e=>by have:=Option.some.inj e;omega
 have HDI:=hide (DInv.beg (s:=zDS) (fun e=>by cases e) hp)
 have hE:w.alloc (.cells [.int .i64 p.o,.int .i64 p.l,.int .i64 p.k,.int .i64 p.z,.int .i64 p.h,.slice p.r.a p.r.n p.r.c,.string p.r.s].toArray 59)=w.alloc (.cells #[.int .i64 p.o,.int .i64 p.l,.int .i64 p.k,.int .i64 p.z,.int .i64 p.h,.slice p.r.a p.r.n p.r.c,.string p.r.s] 59):=rfl
 rw[hE]at hx
 clear hE h
 generalize hW:w.alloc (.cells #[.int .i64 p.o,.int .i64 p.l,.int .i64 p.k,.int .i64 p.z,.int .i64 p.h,.slice p.r.a p.r.n p.r.c,.string p.r.s] 59)=W at*
 have q0:=hx.at 0 rfl
 have q1:=hx.at 1 rfl
 have q2:=hx.at 2 rfl
 have q3:=hx.at 3 rfl
 have q4:=hx.at 4 rfl
 have q5:=hx.at 5 rfl
 have q6:=hx.at 6 rfl
 have HOB:=hide (ZfH p.o p.l p.k p.z p.h (.slice p.r.a p.r.n p.r.c) (.string p.r.s) W)
 have HX:=hide hx
 have HK:=hide hq
 have HB0:=hide hb0
 clear hx hq hb0
 go_enter Tryz.func133,Tryz.ntmps133
 go_wp2_with fail
 refine(unhide HOB).mono ?_
 rintro e w1 ⟨rfl,hb1⟩
 have hk1:=(unhide HK).below hb1
 have hx1:=(unhide HX).below hb1
 have d0:=hk1.at 0 rfl
 have d1:=hk1.at 1 rfl
 have d2:=hk1.at 2 rfl
 have d3:=hk1.at 3 rfl
 have d4:=hk1.at 4 rfl
 have d5:=hk1.at 5 rfl
 have f1:=hk1.frz 1
 have f2:=hk1.frz 2
 have f3:=hk1.frz 3
 have f4:=hk1.frz 4
 have HK1:=hide hk1
 have HX1:=hide hx1
 have HB1:=hide (below0 (unhide HB0) hb1)
 clear q0 q1 q2 q3 q4 q5 q6 HOB HX HK HB0 hb1 hk1 hx1
 go_wp2_with fail
 have hk2:=((((unhide HK1).set 1 (.int .i64 p.o)).set 2 (.int .i64 p.l)).set 3 (.int .i64 p.k)).set 4 (.int .i64 p.z)
 have hgb:w1.grownBy ((((w1.setCell ⟨g,1,none⟩ (.int .i64 p.o)).setCell ⟨g,2,none⟩ (.int .i64 p.l)).setCell ⟨g,3,none⟩ (.int .i64 p.k)).setCell ⟨g,4,none⟩ (.int .i64 p.z)) (some g):=
  gb_trans (gb_trans (gb_trans (Zad _ _ _ _) (Zad _ _ _ _) (.inl rfl)) (Zad _ _ _ _) (.inl rfl)) (Zad _ _ _ _) (.inl rfl)
 have hx2:=(unhide HX1).kept hgb hne
 have ht2:=Tu.after (unhide HB1) (Tu.of_gb (F:=fun j=>j=g) hgb fun j _ e=>(Option.some.inj e).symm)
 clear d0 d1 d2 d3 d4 d5 f1 f2 f3 f4 HK1 HX1 HB1 hgb
 generalize (((w1.setCell ⟨g,1,none⟩ (.int .i64 p.o)).setCell ⟨g,2,none⟩ (.int .i64 p.l)).setCell ⟨g,3,none⟩ (.int .i64 p.k)).setCell ⟨g,4,none⟩ (.int .i64 p.z)=w2 at*
 have q2:=hx2.at 2 rfl
 have q3:=hx2.at 3 rfl
 have d0:=hk2.at 0 rfl
 have HK2:=hide hk2
 have HX2:=hide hx2
 have HT2:=hide ht2
 have HQ:=hide (fun wx (hb:Below w2.heap.size w2 wx)=>show _∧_ from⟨hk2.below hb,hx2.below hb⟩)
 clear hk2 hx2 ht2
 go_region_held3 (fun w'=>w'.cell? ⟨w.heap.size,2,none⟩=some (.int .i64 p.k)∧w'.cell? ⟨w.heap.size,3,none⟩=some (.int .i64 p.z)∧w'.cell? ⟨g,0,none⟩=some (.int .i64 M)) (go_keep) (first
  |(go_at_call 184;refine(Zq7 p.k p.z M _).mono ?_;rintro e w3 ⟨rfl,hs3,hb3⟩;have D3:=hide (show Below w2.heap.size w2 w3 from below0 (Below.refl _ _).drew hb3);have HS3:=hide hs3;obtain⟨y1,y2⟩:=unhide HQ w3 (unhide D3);have r2:=y2.at 2 rfl;have r3:=y2.at 3 rfl;have e0:=y1.at 0 rfl;have e5:=y1.at 5 rfl;have ef5:=y1.frz 5;have HK3:=hide y1;have s0:∀u,(w3.setCell ⟨g,5,none⟩ u).cell? ⟨g,0,none⟩=some (.int .i64 M):=fun u=>(y1.set 5 u).at 0 rfl;have s2:∀u,(w3.setCell ⟨g,5,none⟩ u).cell? ⟨w.heap.size,2,none⟩=some (.int .i64 p.k):=fun u=>(y2.kept (Zad _ _ _ _) hne).at 2 rfl;have s3:∀u,(w3.setCell ⟨g,5,none⟩ u).cell? ⟨w.heap.size,3,none⟩=some (.int .i64 p.z):=fun u=>(y2.kept (Zad _ _ _ _) hne).at 3 rfl;clear hs3 hb3 y1 y2)
  |fail)
 all_goals go_wp2
 go_end0
 have ht4:=Zav w3 g 5 (.pointer (some ⟨w2.heap.size,0,none⟩))
 have hsz:B≤w2.heap.size:=by have:=(unhide HT2).size;omega
 refine⟨rfl,w2.heap.size,⟨(unhide HK3).set 5 _,hlo,fun _=>⟨((unhide HS3).mono hsz).sets (unhide HK3) ht4 (by decide) (by decide) (by decide),unhide HDI⟩,(fun e=>by cases e),rfl⟩,?_,(unhide HT2).size⟩
 exact((unhide HT2).then (unhide D3)).trans ht4 fun j _ e=>e
def PanP(e:Ending):Prop:=∃t,e=.panicked [{v:=.iface 9 (.string t),recovered:=false}]
def AdmP(b:Bool)(e:Ending):Prop:=(b=true→e=.returned (.tuple #[]))∧(b=false→PanP e)
theorem AdmP.no{b:Bool}{e:Ending}(h:b=false)(he:PanP e):AdmP b e:=⟨(fun h2=>by rw[h]at h2;cases h2),fun _=>he⟩
theorem AdmP.yes{b:Bool}{e:Ending}(h:b=true)(he:e=.returned (.tuple #[])):AdmP b e:=⟨fun _=>he,fun h2=>by rw[h]at h2;cases h2⟩
theorem ZBw{p:PKV}(h:okB p=false):CkP 1 (ZaX p.o p.l p.k p.z p.h p.r.xs p.r.s.size):=by
 have:=Zyi p
 rw[h]at this
 exact this
theorem Zx2{p:PKV}(h:okB p=true):CkP 0 (ZaX p.o p.l p.k p.z p.h p.r.xs p.r.s.size):=by
 have:=Zyi p
 rw[h]at this
 exact this
theorem ZtI(g:Nat)(p:PKV)(w:World)(hr:RowAt w p.r.a p.r.n p.r.xs)(hp:okB p=false):
  Calls Tryz.prog 78 #[.pointer (some ⟨g,0,none⟩),.agg #[.int .i64 p.o,.int .i64 p.l,.int .i64 p.k,.int .i64 p.z,.int .i64 p.h,.slice p.r.a p.r.n p.r.c,.string p.r.s]] w fun e w'=>PanP e∧Below w.heap.size w w':=by
 have hb0:=alloc_low w (.cells #[.int .i64 p.o,.int .i64 p.l,.int .i64 p.k,.int .i64 p.z,.int .i64 p.h,.slice p.r.a p.r.n p.r.c,.string p.r.s] 59)
 have HC:=hide (ZaR p.o p.l p.k p.z p.h p.r.a p.r.n p.r.c p.r.xs p.r.s _ (hr.below hb0) 1 (ZBw hp))
 have HB0:=hide hb0
 clear hb0 hr
 go_enter Tryz.func78,Tryz.ntmps78
 go_wp2_with fail
 refine(unhide HC).mono ?_
 rintro e w1 ⟨rfl,hb1⟩
 have HB1:=hide (below0 (unhide HB0) hb1)
 clear hb1 HC HB0
 go_wp2_with fail
 refine(ZjP _ _).mono ?_
 rintro e w2 ⟨rfl,hw⟩
 obtain rfl:=hw.symm
 go_wp2
 exact⟨rfl,⟨_,rfl⟩,unhide HB1⟩
theorem ZjX(g B:Nat)(M:Int)(s:DS)(gs:Nat)(v:Value)(rs:List RV)(p:PKV)(w:World)(h:DcAt w g B M s gs v rs)(hg:s.bg=true)(hr:RowAt w p.r.a p.r.n p.r.xs)(hp:okB p=true):
  Calls Tryz.prog 78 #[.pointer (some ⟨g,0,none⟩),.agg #[.int .i64 p.o,.int .i64 p.l,.int .i64 p.k,.int .i64 p.z,.int .i64 p.h,.slice p.r.a p.r.n p.r.c,.string p.r.s]] w fun e w'=>AdmP (Zk2 s p) e∧Below w.heap.size w w':=by
 have hb0:=alloc_low w (.cells #[.int .i64 p.o,.int .i64 p.l,.int .i64 p.k,.int .i64 p.z,.int .i64 p.h,.slice p.r.a p.r.n p.r.c,.string p.r.s] 59)
 have hx:=Zag 59 w [.int .i64 p.o,.int .i64 p.l,.int .i64 p.k,.int .i64 p.z,.int .i64 p.h,.slice p.r.a p.r.n p.r.c,.string p.r.s]
 have HC:=hide (ZaR p.o p.l p.k p.z p.h p.r.a p.r.n p.r.c p.r.xs p.r.s _ (hr.below hb0) 0 (Zx2 hp))
 have hq:=h.blk.below hb0
 rw[hg,show ptrD true gs=some ⟨gs,0,none⟩ from rfl]at hq
 have HAL:=hide (show Zk2 s p=decide (p.o=s.o∧p.l=s.l∧p.k=s.k∧p.z=s.z) from rfl)
 have heq:=Zx8 p.o p.l p.k p.z s.o s.l s.k s.z
 have hE:w.alloc (.cells [.int .i64 p.o,.int .i64 p.l,.int .i64 p.k,.int .i64 p.z,.int .i64 p.h,.slice p.r.a p.r.n p.r.c,.string p.r.s].toArray 59)=w.alloc (.cells #[.int .i64 p.o,.int .i64 p.l,.int .i64 p.k,.int .i64 p.z,.int .i64 p.h,.slice p.r.a p.r.n p.r.c,.string p.r.s] 59):=rfl
 rw[hE]at hx
 clear hE h hr
 generalize hW:w.alloc (.cells #[.int .i64 p.o,.int .i64 p.l,.int .i64 p.k,.int .i64 p.z,.int .i64 p.h,.slice p.r.a p.r.n p.r.c,.string p.r.s] 59)=W at*
 have HX:=hide hx
 have HK:=hide hq
 have HB0:=hide hb0
 have q0:=hx.at 0 rfl
 have q1:=hx.at 1 rfl
 have q2:=hx.at 2 rfl
 have q3:=hx.at 3 rfl
 have q4:=hx.at 4 rfl
 have q5:=hx.at 5 rfl
 have q6:=hx.at 6 rfl
 clear hx hq hb0
 go_enter Tryz.func78,Tryz.ntmps78
 go_wp2_with fail
 refine(unhide HC).mono ?_
 rintro e w1 ⟨rfl,hb1⟩
 have hk1:=(unhide HK).below hb1
 have hx1:=(unhide HX).below hb1
 have d0:=hk1.at 0 rfl
 have d1:=hk1.at 1 rfl
 have d2:=hk1.at 2 rfl
 have d3:=hk1.at 3 rfl
 have d4:=hk1.at 4 rfl
 have d5:=hk1.at 5 rfl
 have HB1:=hide (below0 (unhide HB0) hb1)
 have HK1:=hide hk1
 have HX1:=hide hx1
 clear hb1 HC HB0 HX HK q0 q1 q2 q3 q4 q5 q6 hk1
 have q0:=hx1.at 0 rfl
 have q1:=hx1.at 1 rfl
 have q2:=hx1.at 2 rfl
 have q3:=hx1.at 3 rfl
 have q4:=hx1.at 4 rfl
 have q5:=hx1.at 5 rfl
 have q6:=hx1.at 6 rfl
 have HQ:=hide (fun wx (hb:Below w1.heap.size w1 wx)=>show _∧_ from⟨(unhide HK1).below hb,(unhide HX1).below hb⟩)
 clear hx1
 have hgq:Tryz.prog.eqGuardType Tryz.prog.depth 176=false:=by kernel_rfl
 go_wp2_with (go_at_call 132;refine(ZeW _ _).mono ?_;rintro e w2 ⟨rfl,hw⟩;obtain rfl:=hw.symm;clear hw)
 cases hd:decide (p.o=s.o∧p.l=s.l∧p.k=s.k∧p.z=s.z)
 ·rw[hd]at heq HAL
  refine wp_region_any (by kernel_rfl) ?_
  change wpAny _ _ _ _ _ _ _ (World.drew _)
  refine wpAny_take (i:=2) (v:=?_) rfl (by kernel_rfl) (by kernel_rfl) (by kernel_rfl) (fun _ _ _ h=>h) (Or.inl ⟨by rfl,?f2⟩) ?_
  case f2=>(intro w;go_simp;try with_reducible rfl)
  refine wpAny_take (i:=3) (v:=?_) rfl (by kernel_rfl) (by kernel_rfl) (by kernel_rfl) (fun _ _ _ h=>h) (Or.inl ⟨by rfl,?f3⟩) ?_
  case f3=>(intro w;go_simp;try with_reducible rfl)
  refine wpAny_take (i:=4) (v:=?_) rfl (by kernel_rfl) (by kernel_rfl) (by kernel_rfl) (fun _ _ _ h=>h) (Or.inl ⟨by rfl,?f4⟩) ?_
  case f4=>(intro w;go_simp;try with_reducible rfl)
  refine wpAny_ready (rs:=[0,5]) (by kernel_rfl) (by simp) ?_
  refine AllReady.cons rfl (fun K hK=>?r1) (AllReady.cons rfl (fun K hK=>?r2) AllReady.nil)
  case r1=>
   go_simp
   refine hK _ _ ?_
   clear hK K
   refine wpAny_ready (rs:=[1,5]) (by kernel_rfl) (by simp) ?_
   refine AllReady.cons rfl (fun K hK=>?s1) (AllReady.cons rfl (fun K hK=>?s2) AllReady.nil)
   case s1=>
    go_simp
    refine(ZfH p.o p.l p.k p.z p.h (.slice p.r.a p.r.n p.r.c) (.string p.r.s) _).mono ?_
    rintro e w3 ⟨rfl,hb3⟩
    have D3:=hide (show Below w1.heap.size w1 w3 from below0 (Below.refl _ _).drew hb3)
    obtain⟨y1,y2⟩:=unhide HQ w3 (unhide D3)
    have e1:=y1.at 1 rfl
    have e2:=y1.at 2 rfl
    have e3:=y1.at 3 rfl
    have e4:=y1.at 4 rfl
    clear hb3 y1 y2
    refine hK _ _ ?_
    clear hK K
    refine wpAny_ready (rs:=[5]) (by kernel_rfl) (by simp) ?_
    refine AllReady.cons rfl (fun K hK=>?_) AllReady.nil
    go_simp
    refine hK _ _ ?_
    clear hK K
    refine wpAny_ready (rs:=[6]) (by kernel_rfl) (by simp) ?_
    refine AllReady.cons rfl (fun K hK=>?_) AllReady.nil
    go_simp
    refine hK _ _ ?_
    clear hK K
    refine wpAny_ready (rs:=[7]) (by kernel_rfl) (by simp) ?_
    refine AllReady.cons rfl (fun K hK=>?_) AllReady.nil
    go_simp
    refine(ZjP _ _).mono ?_
    rintro e w4 ⟨rfl,hw⟩
    obtain rfl:=hw.symm
    exact⟨rfl,AdmP.no (unhide HAL) ⟨_,rfl⟩,below0 (unhide HB1) (unhide D3)⟩
   case s2=>
    go_simp
    refine hK _ _ ?_
    clear hK K
    refine wpAny_ready (rs:=[1]) (by kernel_rfl) (by simp) ?_
    refine AllReady.cons rfl (fun K hK=>?_) AllReady.nil
    go_simp
    refine(ZfH p.o p.l p.k p.z p.h (.slice p.r.a p.r.n p.r.c) (.string p.r.s) _).mono ?_
    rintro e w3 ⟨rfl,hb3⟩
    have D3:=hide (show Below w1.heap.size w1 w3 from below0 (Below.refl _ _).drew hb3)
    obtain⟨y1,y2⟩:=unhide HQ w3 (unhide D3)
    have e1:=y1.at 1 rfl
    have e2:=y1.at 2 rfl
    have e3:=y1.at 3 rfl
    have e4:=y1.at 4 rfl
    clear hb3 y1 y2
    refine hK _ _ ?_
    clear hK K
    refine wpAny_ready (rs:=[6]) (by kernel_rfl) (by simp) ?_
    refine AllReady.cons rfl (fun K hK=>?_) AllReady.nil
    go_simp
    refine hK _ _ ?_
    clear hK K
    refine wpAny_ready (rs:=[7]) (by kernel_rfl) (by simp) ?_
    refine AllReady.cons rfl (fun K hK=>?_) AllReady.nil
    go_simp
    refine(ZjP _ _).mono ?_
    rintro e w4 ⟨rfl,hw⟩
    obtain rfl:=hw.symm
    exact⟨rfl,AdmP.no (unhide HAL) ⟨_,rfl⟩,below0 (unhide HB1) (unhide D3)⟩
  case r2=>
   go_simp
   refine hK _ _ ?_
   clear hK K
   refine wpAny_ready (rs:=[0]) (by kernel_rfl) (by simp) ?_
   refine AllReady.cons rfl (fun K hK=>?_) AllReady.nil
   go_simp
   refine hK _ _ ?_
   clear hK K
   refine wpAny_ready (rs:=[1]) (by kernel_rfl) (by simp) ?_
   refine AllReady.cons rfl (fun K hK=>?_) AllReady.nil
   go_simp
   refine(ZfH p.o p.l p.k p.z p.h (.slice p.r.a p.r.n p.r.c) (.string p.r.s) _).mono ?_
   rintro e w3 ⟨rfl,hb3⟩
   have D3:=hide (show Below w1.heap.size w1 w3 from below0 (Below.refl _ _).drew hb3)
   obtain⟨y1,y2⟩:=unhide HQ w3 (unhide D3)
   have e1:=y1.at 1 rfl
   have e2:=y1.at 2 rfl
   have e3:=y1.at 3 rfl
   have e4:=y1.at 4 rfl
   clear hb3 y1 y2
   refine hK _ _ ?_
   clear hK K
   refine wpAny_ready (rs:=[6]) (by kernel_rfl) (by simp) ?_
   refine AllReady.cons rfl (fun K hK=>?_) AllReady.nil
   go_simp
   refine hK _ _ ?_
   clear hK K
   refine wpAny_ready (rs:=[7]) (by kernel_rfl) (by simp) ?_
   refine AllReady.cons rfl (fun K hK=>?_) AllReady.nil
   go_simp
   refine(ZjP _ _).mono ?_
   rintro e w4 ⟨rfl,hw⟩
   obtain rfl:=hw.symm
   exact⟨rfl,AdmP.no (unhide HAL) ⟨_,rfl⟩,below0 (unhide HB1) (unhide D3)⟩
 ·rw[hd]at heq HAL
  go_region_held3 (fun w'=>w'.cell? ⟨w.heap.size,0,none⟩=some (.int .i64 p.o)∧w'.cell? ⟨w.heap.size,1,none⟩=some (.int .i64 p.l)∧w'.cell? ⟨w.heap.size,2,none⟩=some (.int .i64 p.k)∧w'.cell? ⟨w.heap.size,3,none⟩=some (.int .i64 p.z)∧w'.cell? ⟨w.heap.size,4,none⟩=some (.int .i64 p.h)∧w'.cell? ⟨w.heap.size,5,none⟩=some (.slice p.r.a p.r.n p.r.c)∧w'.cell? ⟨w.heap.size,6,none⟩=some (.string p.r.s)∧w'.cell? ⟨g,1,none⟩=some (.int .i64 s.o)∧w'.cell? ⟨g,2,none⟩=some (.int .i64 s.l)∧w'.cell? ⟨g,3,none⟩=some (.int .i64 s.k)∧w'.cell? ⟨g,4,none⟩=some (.int .i64 s.z)) (go_keep) (first
   |(go_at_call 134;refine(ZfH p.o p.l p.k p.z p.h (.slice p.r.a p.r.n p.r.c) (.string p.r.s) _).mono ?_;rintro e w3 ⟨rfl,hb3⟩;have D3:=hide (show Below w1.heap.size w1 w3 from below0 (Below.refl _ _).drew hb3);obtain⟨y1,y2⟩:=unhide HQ w3 (unhide D3);have r0:=y2.at 0 rfl;have r1:=y2.at 1 rfl;have r2:=y2.at 2 rfl;have r3:=y2.at 3 rfl;have r4:=y2.at 4 rfl;have r5:=y2.at 5 rfl;have r6:=y2.at 6 rfl;have e1:=y1.at 1 rfl;have e2:=y1.at 2 rfl;have e3:=y1.at 3 rfl;have e4:=y1.at 4 rfl;clear hb3 y1 y2)
   |(go_at_call 132;refine(ZeW _ _).mono ?_;rintro e w4 ⟨rfl,hw⟩;obtain rfl:=hw.symm;clear hw)
   |fail)
  all_goals (try go_wp2)
  all_goals go_end0
  all_goals exact⟨AdmP.yes (unhide HAL) rfl,below0 (unhide HB1) (unhide D3)⟩
end Go.Proofs.YtlhhinlghhjghaaGreatDoor
