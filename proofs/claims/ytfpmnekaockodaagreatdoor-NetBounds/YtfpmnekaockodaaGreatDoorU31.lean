/- Laws for the proof. -/
import Derived.Test.YtfpmnekaockodaaGreatDoorU30
import Derived.Deep.MidRow
namespace Go.Proofs.YtfpmnekaockodaaGreatDoor
open Go.RowKit Go.Sort
set_option linter.all false
set_option maxRecDepth 4000
set_option maxHeartbeats 8000000
variable {B:Nat}{v:Value}{w:World}
theorem fg:(Tryz.prog.info? 150).map (fun i=>(i.zero,i.size,i.bytes))=some (some (.pointer none),1,8):=by kernel_rfl
theorem Bm.below{w':World}{ls:List AJ}(h:Bm w B v ls)(b:Below w.heap.size w w'):Bm w' B v ls:=CO (F:=fun _=>False) h (Tu.of_below b) fun _ _=>id
theorem dl{ops:Array Oper}{o:Oper}{a:Act}{K:Act->World->Prop}{Q:Exit->Act->World->Prop}{E:Prop}(d:o.guard=none)(s x:Operand)
  (q:o.op=.call {callee:=.builtin .append,args:=#[s,x],argTypes:=#[114,114]}) (B:Nat) (v:Value) (ls:List AJ) (l:AJ) (r:a.eval s=v) (c:Bm w B v ls) (b:Nat)
  (z:a.eval x=.slice (some ⟨b,0,none⟩) 1 1) (n:w.heap[b]? =some (.cells #[.pointer (some ⟨l.g,0,none⟩)] 150 (0,0))) (D:ls.length<=1000000) (m:B<=w.heap.size)
  (h:∀g cap w',Bm w' B (.slice (some ⟨g,0,none⟩) (ls.length+1) cap) (ls++[l])->w.grownBy w' v.ownBlock->K (a.put o.dst (.slice (some ⟨g,0,none⟩) (ls.length+1) cap)) w'):
  if Region.wanted o (yielded ops a.tmps)=true then Oper.wp Tryz.prog o a w K Q else E:=by
 obtain⟨A,p,e,f,i⟩:=info_parts fg
 refine step_append_lies w d s x 114 q B 150 A (.pointer none) 1 8 Tryz.underlying114 p e f i rfl (by decide) v ls.length (E2 ls) r c ⟨b,0,none⟩ 1 1 [.pointer (some ⟨l.g,0,none⟩)] z rfl
  (World.news_of_block n) (fun u y=>by rw[List.mem_singleton.1 y];rfl) (by decide) (by unfold maxLen;omega) (by omega) m _ rfl (fun g cap w' j k C _=>h g cap w' ?_ k)
 show w'.ownsRow B 150 1 _ (ls++[l]).length (E2 (ls++[l]));rw[List.length_append,show E2 (ls++[l])=E2 ls++[.pointer (some ⟨l.g,0,none⟩)] by simp[E2]];exact j
theorem ME:(Tryz.prog.info? 99).map (fun i=>(i.zero,i.size,i.bytes))=some (some (.agg #[.int .i64 0,.int .i64 0,.string ByteArray.empty]),3,32):=by kernel_rfl
structure AH where
 fr:Int
 dst:Int
 s:ByteArray
def AH.dflt:AH:=⟨0,0,⟨#[]⟩⟩
def AH.cells(f:AH):List Value:=[.int .i64 f.fr,.int .i64 f.dst,.string f.s]
def cellsG(fs:List AH):List Value:=fs.flatMap AH.cells
theorem Ha:∀fs:List AH,(cellsG fs).length=fs.length*3
 |[]=>rfl
 |f::fs=>by
  show(f.cells++cellsG fs).length=_;rw[List.length_append,Ha fs,List.length_cons,Nat.add_mul,Nat.one_mul,Nat.add_comm];rfl
theorem Sw:∀(fs:List AH) (i j:Nat),i<fs.length->j<3->(cellsG fs)[i*3+j]? =(fs.getD i .dflt).cells[j]?
 |[],i,j,h,_=>by simp at h
 |p::ps,0,j,_,b=>by
  show(p.cells++cellsG ps)[0*3+j]? =_;rw[Nat.zero_mul,Nat.zero_add,List.getElem?_append_left (by show j<3;exact b)];rfl
 |p::ps,i+1,j,h,b=>by
  have:=Sw ps i j (by simpa using h) b;show(p.cells++cellsG ps)[(i+1)*3+j]? =_;rw[List.getElem?_append_right (by show 3<=_;omega),show(i+1)*3+j-p.cells.length=i*3+j from by show(i+1)*3+j-3=_;omega,this];rfl
def Ap(w:World)(B:Nat)(v:Value)(fs:List AH):Prop:=w.ownsRow B 99 3 v fs.length (cellsG fs)
theorem Ap.nil(w:World)(B:Nat):Ap w B (.slice none 0 0) []:=World.ownsRow_nil _ _ _ _
theorem Ap.below{w':World}{fs:List AH}(h:Ap w B v fs)(b:Below w.heap.size w w'):Ap w' B v fs:=CO (F:=fun _=>False) h (Tu.of_below b) fun _ _=>id
theorem Ap.len{fs:List AH}(h:Ap w B v fs):∃a c,v=.slice a fs.length c:=by
 rcases h.2 with⟨rfl,d⟩|⟨g,cap,b,rfl,_⟩
 ·exact⟨none,0,by rw[d]⟩
 ·exact⟨_,_,rfl⟩
theorem Ap.at{fs:List AH}(h:Ap w B v fs)(k:0<fs.length):∃g cap,v=.slice (some ⟨g,0,none⟩) fs.length cap/\∀i,i<fs.length->w.cell? ⟨g,i*3,none⟩=some (.int .i64 (fs.getD i .dflt).fr)/\w.cell? ⟨g,i*3+1,none⟩=some (.int .i64 (fs.getD i .dflt).dst)/\w.cell? ⟨g,i*3+2,none⟩=some (.string (fs.getD i .dflt).s):=by
 have c:w.ownsRow B 99 3 v fs.length (cellsG fs):=h;rcases h.2 with⟨rfl,n⟩|⟨g,cap,d,rfl,o,p,k,q,l,ht⟩
 ·omega
 ·refine⟨g,cap,rfl,fun i e=>?_⟩
  have b:∀j,j<3->∀u,(fs.getD i .dflt).cells[j]? =some u->w.cell? ⟨g,i*3+j,none⟩=some u:=fun j f u m=>by
   have:=World.ownsRow.cells c (g:=g) rfl (i*3+j) u (by rw[Sw fs i j e f];exact m);rwa[show(⟨g,0,none⟩:Addr).add (i*3+j)=⟨g,i*3+j,none⟩ by unfold Addr.add;split<;>simp_all]at this
  exact⟨b 0 (by decide) _ rfl,b 1 (by decide) _ rfl,b 2 (by decide) _ rfl⟩
theorem gn(w:World):Calls Tryz.prog 68 #[.slice none 0 0] w fun e w'=>e=.returned (.slice none 0 0)/\w'=w:=by
 have b:=fun wx=>Lib.run_eql_slice_nil (P:=Tryz.prog) wx 27 3 none 0 0 0 0 Tryz.underlying27;go_enter Tryz.func68,Tryz.ntmps68;go_wp2;go_ret;exact⟨rfl,rfl⟩
variable {a:Act}{aft:Array Edge}{ops:Array Oper}{Q:Exit->Act->World->Prop}{rest:List Oper}{cs:List Value}{g:Nat}{dst:Option Tmp}{pos:String}{typ T:TypeId}{w:World}
theorem PI(T:TypeId){n:Nat}{d:TypeDesc}(i:Tryz.prog.underlying T=some d)(c:d.isRow=true)(e:(Tryz.prog.info? T).map (·.size)=some n)(x:Tmp)(D:Nat)(cs:List Value)(l:a.eval (.tmp x)=.pointer (some ⟨D,0,none⟩))(b:BkA T w D cs)(f:cs.length=n)
  (h:wpList Tryz.prog ops Q rest (a.put dst (.agg cs.toArray)) w):wpList Tryz.prog ops Q ({dst:=dst,op:=.load T (.tmp x),type:=typ,pos:=pos,after:=aft,guard:=none}::rest) a w:=
 wpList_load_mid rfl T (.tmp x) rfl D 0 l cs _ (fun j v k=>by rw[Nat.zero_add];exact b.at j k) i c (by rw[f];exact e) h
theorem K2(T:TypeId){n:Nat}(d:(Tryz.prog.info? T).map (·.size)=some n)(x y:Tmp)(R:Nat)(cs us:List Value)(l:a.eval (.tmp x)=.pointer (some ⟨R,0,none⟩))(m:a.eval (.tmp y)=.agg us.toArray)(b:BkA T w R cs)(o:cs.length=n)(i:us.length=n)(c:∀u∈us,u.oneCell'=true)
  (h:∀w',BkA T w' R us->Tu (fun j=>j=R) w w'->wpList Tryz.prog ops Q rest (a.put dst undef) w'):wpList Tryz.prog ops Q ({dst:=dst,op:=.store T (.tmp x) (.tmp y),type:=typ,pos:=pos,after:=aft,guard:=none}::rest) a w:=by
 refine wpList_store_mid rfl T (.tmp x) (.tmp y) rfl R 0 us.toArray l m (fun j f=>?_) (by rw[List.size_toArray,i];exact d) (all_oneCell_toArray c) (h _ (b.setAll (by show us.length=cs.length;omega)) (Tu.of_gb (GK R us 0 w) fun j _ e=>(Option.some.inj e).symm));rw[List.size_toArray]at f;obtain⟨u,k⟩:∃u,cs[j]? =some u:=⟨cs[j]'(by omega),List.getElem?_eq_getElem (by omega)⟩;rw[Nat.zero_add];exact⟨by rw[b.at j k];rfl,b.frz j⟩
theorem BkA.load{n:Nat}{d:TypeDesc}(h:BkA T w g cs)(f:Tryz.prog.underlying T=some d)(b:d.isRow=true)(c:(Tryz.prog.info? T).map (·.size)=some n)(e:cs.length=n):(loadVar T ⟨g,0,none⟩).run Tryz.prog w=.ok (.agg cs.toArray) w:=
 run_loadVar_mid (P:=Tryz.prog) w g 0 T cs _ (fun j v i=>by rw[Nat.zero_add];exact h.at j i) f b (by rw[e];exact c)
theorem Tu.cell{F:Nat->Prop}{w':World}(h:Tu F w w'){p:Addr}{v:Value}(hp:w.cell? p=some v)(b:¬F p.block):w'.cell? p=some v:=
 (World.cell?_of_block (w:=w) (h.block p.block (World.block_lt_of_cell? w p hp) b)).trans hp
theorem BkA.setMid{o:Nat}{us:List Value}(h:BkA T w g cs)(l:o+us.length<=cs.length):BkA T (w.setCells g o us) g (cs.take o++us++cs.drop (o+us.length)):=by
 obtain⟨b,d,e,f⟩:=GL g T us o w cs.toArray h;unfold BkA;rw[d];have:b=(cs.take o++us++cs.drop (o+us.length)).toArray:=by
  apply Array.ext_getElem?;intro j;by_cases c:j<cs.length
  ·rw[f j (by simpa using c)]
   simp only[List.getElem?_toArray,List.append_assoc];by_cases i:j<o
   ·rw[if_neg (by omega),List.getElem?_append_left (by rw[List.length_take];omega),List.getElem?_take,if_pos i]
   ·rw[List.getElem?_append_right (by rw[List.length_take];omega),List.length_take,Nat.min_eq_left (by omega)]
    by_cases k:j<o+us.length
    ·rw[if_pos (by omega),List.getElem?_append_left (by omega)]
    ·rw[if_neg (by omega),List.getElem?_append_right (by omega),List.getElem?_drop,show o+us.length+(j-o-us.length)=j by omega]
  ·rw[Array.getElem?_eq_none (by rw[e];simpa using c),Array.getElem?_eq_none (by simp;omega)]
 rw[this]
theorem BkA.there{o n:Nat}(h:BkA T w g cs)(d:o+n<=cs.length):w.there g o n:=fun j c=>by
 obtain⟨u,b⟩:∃u,cs[o+j]? =some u:=⟨cs[o+j]'(by omega),List.getElem?_eq_getElem (by omega)⟩;exact⟨by rw[h.at (o+j) b];rfl,h.frz (o+j)⟩
theorem Ob{p:Oper}{K:Act->World->Prop}{E:Prop}(b:p.guard=none)(T c:TypeId){n:Nat}(k:(Tryz.prog.info? T).map (·.size)=some n)(x y:Operand)(m:p.op=.store T x y)(R o:Nat)(cs us:List Value)
  (r:a.eval x=.pointer (some ⟨R,o,none⟩)) (s:a.eval y=.agg us.toArray) (d:BkA c w R cs) (l:us.length=n) (f:o+us.length<=cs.length) (i:∀u∈us,u.oneCell'=true)
  (h:∀w',BkA c w' R (cs.take o++us++cs.drop (o+us.length))->Tu (fun j=>j=R) w w'->K (a.put p.dst undef) w'):
  if Region.wanted p (yielded ops a.tmps)=true then Oper.wp Tryz.prog p a w K Q else E:=by
 have q:Region.wanted p (yielded ops a.tmps)=true:=by simp[Region.wanted,b]
 rw[if_pos q];exact wp_store_mid T x y m R o us.toArray r s (by rw[List.size_toArray];exact d.there f) (by rw[List.size_toArray,l];exact k) (all_oneCell_toArray i) (h _ (d.setMid f) (Tu.of_gb (GK R us o w) fun j _ e=>(Option.some.inj e).symm))
theorem Ld(T b:TypeId){n:Nat}(i:(Tryz.prog.info? T).map (·.size)=some n)(x y:Tmp)(R o:Nat)(cs us:List Value)(l:a.eval (.tmp x)=.pointer (some ⟨R,o,none⟩))(m:a.eval (.tmp y)=.agg us.toArray)(c:BkA b w R cs)(k:us.length=n)(d:o+us.length<=cs.length)(f:∀u∈us,u.oneCell'=true)
  (h:∀w',BkA b w' R (cs.take o++us++cs.drop (o+us.length))->Tu (fun j=>j=R) w w'->wpList Tryz.prog ops Q rest (a.put dst undef) w'):wpList Tryz.prog ops Q ({dst:=dst,op:=.store T (.tmp x) (.tmp y),type:=typ,pos:=pos,after:=aft,guard:=none}::rest) a w:=
 wpList_store_mid rfl T (.tmp x) (.tmp y) rfl R o us.toArray l m (by rw[List.size_toArray];exact c.there d) (by rw[List.size_toArray,k];exact i) (all_oneCell_toArray f) (h _ (c.setMid d) (Tu.of_gb (GK R us o w) fun j _ e=>(Option.some.inj e).symm))
theorem kN(M:Int)(w:World):
  Calls Tryz.prog 74 #[.int .i64 M] w fun e w'=>e=.returned (.pointer (some ⟨w.heap.size,0,none⟩))/\An w' w.heap.size w.heap.size M C9 w.heap.size (.slice none 0 0) []/\Below w.heap.size w w':=by
 go_enter Tryz.func74,Tryz.ntmps74;go_wp2;go_ret;exact⟨rfl,aO w M,(Below.refl _ _).alloc (Nat.le_refl _) _⟩
theorem KZ(t:ByteArray)(w:World):Calls Tryz.prog 158 #[.bool true,.string t] w fun e w'=>e=.returned (.tuple #[])/\w'=w:=by
 go_enter Tryz.func158,Tryz.ntmps158;go_wp2;go_end0;exact⟨rfl,rfl⟩
theorem MW(t:ByteArray)(w:World):Calls Tryz.prog 158 #[.bool false,.string t] w fun e w'=>e=.panicked [{v:=.iface 9 (.string t),recovered:=false}]/\w'=w:=by
 go_enter Tryz.func158,Tryz.ntmps158;go_wp2;exact⟨rfl,rfl,rfl⟩
theorem JW(o l k z h:Int)(x y:Value)(w:World):
  Calls Tryz.prog 160 #[.agg #[.int .i64 o,.int .i64 l,.int .i64 k,.int .i64 z,.int .i64 h,x,y]] w fun e w'=>e=.returned (.agg #[.int .i64 o,.int .i64 l,.int .i64 k,.int .i64 z])/\Below w.heap.size w w':=by
 go_enter Tryz.func160,Tryz.ntmps160;go_wp2;exact bodyPost_ret (v:=.agg #[.int .i64 o,.int .i64 l,.int .i64 k,.int .i64 z]) (by simp[results,Tryz.results160,go_sem]) rfl ⟨rfl,((Below.refl _ _).alloc (Nat.le_refl _) _).alloc (by simp) _⟩
theorem Q9(o l k z i h f j:Int)(W:World):
  (binOp .eql 171 (.agg #[.int .i64 o,.int .i64 l,.int .i64 k,.int .i64 z]) (.agg #[.int .i64 i,.int .i64 h,.int .i64 f,.int .i64 j])).run Tryz.prog W=.ok (.bool (decide (o=i/\l=h/\k=f/\z=j))) W:=by
 rw[run_eql_struct,run_equalIn_struct (d:=9999) (ht:=by kernel_rfl) (hp:=by kernel_rfl)];simp only[Program.fieldsOf,Tryz.underlying171];by_cases b:o=i
 ·by_cases c:l=h
  ·by_cases e:k=f
   ·by_cases m:z=j
    ·simp[Op.eqFields,BS,go_sem,Tryz.underlying3,b,c,e,m]
    ·simp[Op.eqFields,BS,go_sem,Tryz.underlying3,b,c,e,m]
   ·simp[Op.eqFields,BS,go_sem,Tryz.underlying3,b,c,e]
  ·simp[Op.eqFields,BS,go_sem,Tryz.underlying3,b,c]
 ·simp[Op.eqFields,BS,go_sem,Tryz.underlying3,b]
theorem gv(g B:Nat)(M:Int)(p:PKV)(w:World)(h:An w g B M C9 g (.slice none 0 0) [])(hp:DG p=true):
  Calls Tryz.prog 159 #[.pointer (some ⟨g,0,none⟩),.agg #[.int .i64 p.o,.int .i64 p.l,.int .i64 p.k,.int .i64 p.z,.int .i64 p.h,.slice p.r.a p.r.n p.r.c,.string p.r.s]] w fun e w'=>
   e=.returned (.tuple #[])/\∃gs,An w' g B M (Cy C9 p) gs (.slice none 0 0) []/\Tu (fun j=>j=g) w w'/\w.heap.size<=gs:=by
 have x:=Ax w (.cells #[.int .i64 p.o,.int .i64 p.l,.int .i64 p.k,.int .i64 p.z,.int .i64 p.h,.slice p.r.a p.r.n p.r.c,.string p.r.s] 75);have f:=AN 75 w [.int .i64 p.o,.int .i64 p.l,.int .i64 p.k,.int .i64 p.z,.int .i64 p.h,.slice p.r.a p.r.n p.r.c,.string p.r.s];have hq:=h.blk.below x;have Y:=h.lo;have ad:=h.lt;have A:some w.heap.size≠some g:=fun e=>by have:=Option.some.inj e;omega
 have V:=Ab (BZ.beg (s:=C9) (fun e=>by cases e) hp);have hE:w.alloc (.cells [.int .i64 p.o,.int .i64 p.l,.int .i64 p.k,.int .i64 p.z,.int .i64 p.h,.slice p.r.a p.r.n p.r.c,.string p.r.s].toArray 75)=w.alloc (.cells #[.int .i64 p.o,.int .i64 p.l,.int .i64 p.k,.int .i64 p.z,.int .i64 p.h,.slice p.r.a p.r.n p.r.c,.string p.r.s] 75):=rfl;rw[hE]at f;clear hE h;generalize hW:w.alloc (.cells #[.int .i64 p.o,.int .i64 p.l,.int .i64 p.k,.int .i64 p.z,.int .i64 p.h,.slice p.r.a p.r.n p.r.c,.string p.r.s] 75)=W at*;have q0:=f.at 0 rfl;have q1:=f.at 1 rfl;have q2:=f.at 2 rfl;have q3:=f.at 3 rfl;have q4:=f.at 4 rfl;have q5:=f.at 5 rfl;have q6:=f.at 6 rfl;have J:=Ab (JW p.o p.l p.k p.z p.h (.slice p.r.a p.r.n p.r.c) (.string p.r.s) W);have HX:=Ab f;have HK:=Ab hq;have D:=Ab x;clear f hq x;go_enter Tryz.func159,Tryz.ntmps159;go_wp2_with fail;refine(Aa J).mono ?_;rintro e w1 ⟨rfl,i⟩;have b:=(Aa HK).below i;have R:=(Aa HX).below i;have d0:=b.at 0 rfl;have d1:=b.at 1 rfl;have d2:=b.at 2 rfl;have d3:=b.at 3 rfl;have d4:=b.at 4 rfl;have d5:=b.at 5 rfl;have f1:=b.frz 1;have f2:=b.frz 2;have f3:=b.frz 3;have f4:=b.frz 4;have H:=Ab b;have K:=Ab R;have E:=Ab (Ad (Aa D) i);clear q0 q1 q2 q3 q4 q5 q6 J HX HK D i b R;go_wp2_with fail;have m:=((((Aa H).set 1 (.int .i64 p.o)).set 2 (.int .i64 p.l)).set 3 (.int .i64 p.k)).set 4 (.int .i64 p.z)
 have y:w1.grownBy ((((w1.setCell ⟨g,1,none⟩ (.int .i64 p.o)).setCell ⟨g,2,none⟩ (.int .i64 p.l)).setCell ⟨g,3,none⟩ (.int .i64 p.k)).setCell ⟨g,4,none⟩ (.int .i64 p.z)) (some g):=
  BD (BD (BD (BF _ _ _ _) (BF _ _ _ _) (.inl rfl)) (BF _ _ _ _) (.inl rfl)) (BF _ _ _ _) (.inl rfl)
 have d:=(Aa K).kept y A;have O:=Tu.after (Aa E) (Tu.of_gb (F:=fun j=>j=g) y fun j _ e=>(Option.some.inj e).symm);clear d0 d1 d2 d3 d4 d5 f1 f2 f3 f4 H K E y;generalize (((w1.setCell ⟨g,1,none⟩ (.int .i64 p.o)).setCell ⟨g,2,none⟩ (.int .i64 p.l)).setCell ⟨g,3,none⟩ (.int .i64 p.k)).setCell ⟨g,4,none⟩ (.int .i64 p.z)=w2 at*;have q2:=d.at 2 rfl;have q3:=d.at 3 rfl;have d0:=m.at 0 rfl;have aa:=Ab m;have ab:=Ab d;have q:=Ab O;have HQ:=Ab (fun wx (hb:Below w2.heap.size w2 wx)=>show _/\_ from⟨m.below hb,d.below hb⟩);clear m d O
 go_region_held3 (fun w'=>w'.cell? ⟨w.heap.size,2,none⟩=some (.int .i64 p.k)/\w'.cell? ⟨w.heap.size,3,none⟩=some (.int .i64 p.z)/\w'.cell? ⟨g,0,none⟩=some (.int .i64 M)) (go_keep) (first
  |(go_at_call 183;refine(nt p.k p.z M _).mono ?_;rintro e w3 ⟨rfl,N,L⟩;have D3:=Ab (show Below w2.heap.size w2 w3 from Ad (Below.refl _ _).drew L);have X:=Ab N;obtain⟨C,S⟩:=Aa HQ w3 (Aa D3);have r2:=S.at 2 rfl;have r3:=S.at 3 rfl;have e0:=C.at 0 rfl;have e5:=C.at 5 rfl;have ac:=C.frz 5;have I:=Ab C;have s0:∀u,(w3.setCell ⟨g,5,none⟩ u).cell? ⟨g,0,none⟩=some (.int .i64 M):=fun u=>(C.set 5 u).at 0 rfl;have s2:∀u,(w3.setCell ⟨g,5,none⟩ u).cell? ⟨w.heap.size,2,none⟩=some (.int .i64 p.k):=fun u=>(S.kept (BF _ _ _ _) A).at 2 rfl;have s3:∀u,(w3.setCell ⟨g,5,none⟩ u).cell? ⟨w.heap.size,3,none⟩=some (.int .i64 p.z):=fun u=>(S.kept (BF _ _ _ _) A).at 3 rfl;clear N L C S)
  |fail)
 all_goals go_wp2
 go_end0;have P:=Be w3 g 5 (.pointer (some ⟨w2.heap.size,0,none⟩));have Z:B<=w2.heap.size:=by have:=(Aa q).size;omega
 refine⟨rfl,w2.heap.size,⟨(Aa I).set 5 _,Y,fun _=>⟨((Aa X).mono Z).sets (Aa I) P (by decide) (by decide) (by decide),Aa V⟩,(fun e=>by cases e),rfl⟩,?_,(Aa q).size⟩;exact((Aa q).then (Aa D3)).trans P fun j _ e=>e
def LH(e:Ending):Prop:=∃t,e=.panicked [{v:=.iface 9 (.string t),recovered:=false}]
def Db(b:Bool)(e:Ending):Prop:=(b=true->e=.returned (.tuple #[]))/\(b=false->LH e)
theorem Db.no{b:Bool}{e:Ending}(h:b=false)(d:LH e):Db b e:=⟨(fun c=>by rw[h]at c;cases c),fun _=>d⟩
theorem Db.yes{b:Bool}{e:Ending}(h:b=true)(d:e=.returned (.tuple #[])):Db b e:=⟨fun _=>d,fun c=>by rw[h]at c;cases c⟩
theorem bF{p:PKV}(h:DG p=false):ER 1 (Ci p.o p.l p.k p.z p.h p.r.xs p.r.s.size):=by
 have:=QS p;rw[h]at this;exact this
theorem Q6{p:PKV}(h:DG p=true):ER 0 (Ci p.o p.l p.k p.z p.h p.r.xs p.r.s.size):=by
 have:=QS p;rw[h]at this;exact this
theorem jW(g:Nat)(p:PKV)(w:World)(m:RowAt w p.r.a p.r.n p.r.xs)(hp:DG p=false):
  Calls Tryz.prog 126 #[.pointer (some ⟨g,0,none⟩),.agg #[.int .i64 p.o,.int .i64 p.l,.int .i64 p.k,.int .i64 p.z,.int .i64 p.h,.slice p.r.a p.r.n p.r.c,.string p.r.s]] w fun e w'=>LH e/\Below w.heap.size w w':=by
 have b:=Ax w (.cells #[.int .i64 p.o,.int .i64 p.l,.int .i64 p.k,.int .i64 p.z,.int .i64 p.h,.slice p.r.a p.r.n p.r.c,.string p.r.s] 75);have j:=Ab (EV p.o p.l p.k p.z p.h p.r.a p.r.n p.r.c p.r.xs p.r.s _ (m.below b) 1 (bF hp));have d:=Ab b;clear b m;go_enter Tryz.func126,Tryz.ntmps126;go_wp2_with fail;refine(Aa j).mono ?_;rintro e w1 ⟨rfl,f⟩;have i:=Ab (Ad (Aa d) f);clear f j d;go_wp2_with fail;refine(MW _ _).mono ?_;rintro e w2 ⟨rfl,q⟩;obtain rfl:=q.symm;go_wp2;exact⟨rfl,⟨_,rfl⟩,Aa i⟩
theorem Ty(g B:Nat)(M:Int)(s:DS)(gs:Nat)(v:Value)(rs:List RV)(p:PKV)(w:World)(h:An w g B M s gs v rs)(hg:s.bg=true)(hr:RowAt w p.r.a p.r.n p.r.xs)(hp:DG p=true):
  Calls Tryz.prog 126 #[.pointer (some ⟨g,0,none⟩),.agg #[.int .i64 p.o,.int .i64 p.l,.int .i64 p.k,.int .i64 p.z,.int .i64 p.h,.slice p.r.a p.r.n p.r.c,.string p.r.s]] w fun e w'=>Db (Le s p) e/\Below w.heap.size w w':=by
 have D:=Ax w (.cells #[.int .i64 p.o,.int .i64 p.l,.int .i64 p.k,.int .i64 p.z,.int .i64 p.h,.slice p.r.a p.r.n p.r.c,.string p.r.s] 75);have A:=AN 75 w [.int .i64 p.o,.int .i64 p.l,.int .i64 p.k,.int .i64 p.z,.int .i64 p.h,.slice p.r.a p.r.n p.r.c,.string p.r.s];have Y:=Ab (EV p.o p.l p.k p.z p.h p.r.a p.r.n p.r.c p.r.xs p.r.s _ (hr.below D) 0 (Q6 hp));have V:=h.blk.below D;rw[hg,show F0 true gs=some ⟨gs,0,none⟩ from rfl]at V;have u:=Ab (show Le s p=decide (p.o=s.o/\p.l=s.l/\p.k=s.k/\p.z=s.z) from rfl);have I:=Q9 p.o p.l p.k p.z s.o s.l s.k s.z;have hE:w.alloc (.cells [.int .i64 p.o,.int .i64 p.l,.int .i64 p.k,.int .i64 p.z,.int .i64 p.h,.slice p.r.a p.r.n p.r.c,.string p.r.s].toArray 75)=w.alloc (.cells #[.int .i64 p.o,.int .i64 p.l,.int .i64 p.k,.int .i64 p.z,.int .i64 p.h,.slice p.r.a p.r.n p.r.c,.string p.r.s] 75):=rfl;rw[hE]at A;clear hE h hr;generalize hW:w.alloc (.cells #[.int .i64 p.o,.int .i64 p.l,.int .i64 p.k,.int .i64 p.z,.int .i64 p.h,.slice p.r.a p.r.n p.r.c,.string p.r.s] 75)=W at*;have HX:=Ab A;have Z:=Ab V;have H:=Ab D;have q0:=A.at 0 rfl;have q1:=A.at 1 rfl;have q2:=A.at 2 rfl;have q3:=A.at 3 rfl;have q4:=A.at 4 rfl;have q5:=A.at 5 rfl;have q6:=A.at 6 rfl;clear A V D;go_enter Tryz.func126,Tryz.ntmps126;go_wp2_with fail;refine(Aa Y).mono ?_;rintro e w1 ⟨rfl,E⟩;have m:=(Aa Z).below E;have j:=(Aa HX).below E;have d0:=m.at 0 rfl;have d1:=m.at 1 rfl;have d2:=m.at 2 rfl;have d3:=m.at 3 rfl;have d4:=m.at 4 rfl;have d5:=m.at 5 rfl;have C:=Ab (Ad (Aa H) E);have L:=Ab m;have N:=Ab j;clear E Y H HX Z q0 q1 q2 q3 q4 q5 q6 m;have q0:=j.at 0 rfl;have q1:=j.at 1 rfl;have q2:=j.at 2 rfl;have q3:=j.at 3 rfl;have q4:=j.at 4 rfl;have q5:=j.at 5 rfl;have q6:=j.at 6 rfl;have J:=Ab (fun wx (hb:Below w1.heap.size w1 wx)=>show _/\_ from⟨(Aa L).below hb,(Aa N).below hb⟩);clear j;have aa:Tryz.prog.eqGuardType Tryz.prog.depth 171=false:=by kernel_rfl
 go_wp2_with (go_at_call 158;refine(KZ _ _).mono ?_;rintro e w2 ⟨rfl,y⟩;obtain rfl:=y.symm;clear y);cases hd:decide (p.o=s.o/\p.l=s.l/\p.k=s.k/\p.z=s.z)
 ·rw[hd]at I u
  refine wp_region_any (by kernel_rfl) ?_;change wpAny _ _ _ _ _ _ _ (World.drew _);refine wpAny_take (i:=2) (v:=?_) rfl (by kernel_rfl) (by kernel_rfl) (by kernel_rfl) (fun _ _ _ h=>h) (Or.inl ⟨by rfl,?f2⟩) ?_
  case f2=>(intro w;go_simp;try with_reducible rfl)
  refine wpAny_take (i:=3) (v:=?_) rfl (by kernel_rfl) (by kernel_rfl) (by kernel_rfl) (fun _ _ _ h=>h) (Or.inl ⟨by rfl,?f3⟩) ?_
  case f3=>(intro w;go_simp;try with_reducible rfl)
  refine wpAny_take (i:=4) (v:=?_) rfl (by kernel_rfl) (by kernel_rfl) (by kernel_rfl) (fun _ _ _ h=>h) (Or.inl ⟨by rfl,?f4⟩) ?_
  case f4=>(intro w;go_simp;try with_reducible rfl)
  refine wpAny_ready (rs:=[0,5]) (by kernel_rfl) (by simp) ?_;refine AllReady.cons rfl (fun K b=>?r1) (AllReady.cons rfl (fun K b=>?r2) AllReady.nil)
  case r1=>
   go_simp;refine b _ _ ?_;clear b K;refine wpAny_ready (rs:=[1,5]) (by kernel_rfl) (by simp) ?_;refine AllReady.cons rfl (fun K b=>?s1) (AllReady.cons rfl (fun K b=>?s2) AllReady.nil)
   case s1=>
    go_simp;refine(JW p.o p.l p.k p.z p.h (.slice p.r.a p.r.n p.r.c) (.string p.r.s) _).mono ?_;rintro e w3 ⟨rfl,d⟩;have x:=Ab (show Below w1.heap.size w1 w3 from Ad (Below.refl _ _).drew d);obtain⟨f,q⟩:=Aa J w3 (Aa x);have O:=f.at 1 rfl;have P:=f.at 2 rfl;have R:=f.at 3 rfl;have S:=f.at 4 rfl;clear d f q;refine b _ _ ?_;clear b K;refine wpAny_ready (rs:=[5]) (by kernel_rfl) (by simp) ?_;refine AllReady.cons rfl (fun K b=>?_) AllReady.nil;go_simp;refine b _ _ ?_;clear b K;refine wpAny_ready (rs:=[6]) (by kernel_rfl) (by simp) ?_;refine AllReady.cons rfl (fun K b=>?_) AllReady.nil;go_simp;refine b _ _ ?_;clear b K;refine wpAny_ready (rs:=[7]) (by kernel_rfl) (by simp) ?_;refine AllReady.cons rfl (fun K b=>?_) AllReady.nil;go_simp;refine(MW _ _).mono ?_;rintro e X ⟨rfl,y⟩;obtain rfl:=y.symm;exact⟨rfl,Db.no (Aa u) ⟨_,rfl⟩,Ad (Aa C) (Aa x)⟩
   case s2=>
    go_simp;refine b _ _ ?_;clear b K;refine wpAny_ready (rs:=[1]) (by kernel_rfl) (by simp) ?_;refine AllReady.cons rfl (fun K b=>?_) AllReady.nil;go_simp;refine(JW p.o p.l p.k p.z p.h (.slice p.r.a p.r.n p.r.c) (.string p.r.s) _).mono ?_;rintro e w3 ⟨rfl,d⟩;have x:=Ab (show Below w1.heap.size w1 w3 from Ad (Below.refl _ _).drew d);obtain⟨f,q⟩:=Aa J w3 (Aa x);have O:=f.at 1 rfl;have P:=f.at 2 rfl;have R:=f.at 3 rfl;have S:=f.at 4 rfl;clear d f q;refine b _ _ ?_;clear b K;refine wpAny_ready (rs:=[6]) (by kernel_rfl) (by simp) ?_;refine AllReady.cons rfl (fun K b=>?_) AllReady.nil;go_simp;refine b _ _ ?_;clear b K;refine wpAny_ready (rs:=[7]) (by kernel_rfl) (by simp) ?_;refine AllReady.cons rfl (fun K b=>?_) AllReady.nil;go_simp;refine(MW _ _).mono ?_;rintro e X ⟨rfl,y⟩;obtain rfl:=y.symm;exact⟨rfl,Db.no (Aa u) ⟨_,rfl⟩,Ad (Aa C) (Aa x)⟩
  case r2=>
   go_simp;refine b _ _ ?_;clear b K;refine wpAny_ready (rs:=[0]) (by kernel_rfl) (by simp) ?_;refine AllReady.cons rfl (fun K b=>?_) AllReady.nil;go_simp;refine b _ _ ?_;clear b K;refine wpAny_ready (rs:=[1]) (by kernel_rfl) (by simp) ?_;refine AllReady.cons rfl (fun K b=>?_) AllReady.nil;go_simp;refine(JW p.o p.l p.k p.z p.h (.slice p.r.a p.r.n p.r.c) (.string p.r.s) _).mono ?_;rintro e w3 ⟨rfl,d⟩;have x:=Ab (show Below w1.heap.size w1 w3 from Ad (Below.refl _ _).drew d);obtain⟨f,q⟩:=Aa J w3 (Aa x);have O:=f.at 1 rfl;have P:=f.at 2 rfl;have R:=f.at 3 rfl;have S:=f.at 4 rfl;clear d f q;refine b _ _ ?_;clear b K;refine wpAny_ready (rs:=[6]) (by kernel_rfl) (by simp) ?_;refine AllReady.cons rfl (fun K b=>?_) AllReady.nil;go_simp;refine b _ _ ?_;clear b K;refine wpAny_ready (rs:=[7]) (by kernel_rfl) (by simp) ?_;refine AllReady.cons rfl (fun K b=>?_) AllReady.nil;go_simp;refine(MW _ _).mono ?_;rintro e X ⟨rfl,y⟩;obtain rfl:=y.symm;exact⟨rfl,Db.no (Aa u) ⟨_,rfl⟩,Ad (Aa C) (Aa x)⟩
 ·rw[hd]at I u
  go_region_held3 (fun w'=>w'.cell? ⟨w.heap.size,0,none⟩=some (.int .i64 p.o)/\w'.cell? ⟨w.heap.size,1,none⟩=some (.int .i64 p.l)/\w'.cell? ⟨w.heap.size,2,none⟩=some (.int .i64 p.k)/\w'.cell? ⟨w.heap.size,3,none⟩=some (.int .i64 p.z)/\w'.cell? ⟨w.heap.size,4,none⟩=some (.int .i64 p.h)/\w'.cell? ⟨w.heap.size,5,none⟩=some (.slice p.r.a p.r.n p.r.c)/\w'.cell? ⟨w.heap.size,6,none⟩=some (.string p.r.s)/\w'.cell? ⟨g,1,none⟩=some (.int .i64 s.o)/\w'.cell? ⟨g,2,none⟩=some (.int .i64 s.l)/\w'.cell? ⟨g,3,none⟩=some (.int .i64 s.k)/\w'.cell? ⟨g,4,none⟩=some (.int .i64 s.z)) (go_keep) (first
   |(go_at_call 160;refine(JW p.o p.l p.k p.z p.h (.slice p.r.a p.r.n p.r.c) (.string p.r.s) _).mono ?_;rintro e w3 ⟨rfl,d⟩;have x:=Ab (show Below w1.heap.size w1 w3 from Ad (Below.refl _ _).drew d);obtain⟨f,q⟩:=Aa J w3 (Aa x);have r0:=q.at 0 rfl;have r1:=q.at 1 rfl;have r2:=q.at 2 rfl;have r3:=q.at 3 rfl;have r4:=q.at 4 rfl;have r5:=q.at 5 rfl;have r6:=q.at 6 rfl;have O:=f.at 1 rfl;have P:=f.at 2 rfl;have R:=f.at 3 rfl;have S:=f.at 4 rfl;clear d f q)
   |(go_at_call 158;refine(KZ _ _).mono ?_;rintro e X ⟨rfl,y⟩;obtain rfl:=y.symm;clear y)
   |fail)
  all_goals (try go_wp2)
  all_goals go_end0
  all_goals exact⟨Db.yes (Aa u) rfl,Ad (Aa C) (Aa x)⟩
end Go.Proofs.YtfpmnekaockodaaGreatDoor
