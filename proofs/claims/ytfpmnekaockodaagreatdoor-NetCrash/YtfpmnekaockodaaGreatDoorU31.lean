/- Laws for the proof. -/
import Derived.Test.YtfpmnekaockodaaGreatDoorU30
import Derived.Deep.MidRow
set_option linter.all false
open Go.Proofs.Tryz
open Go.Value renaming int->U,string->ε,pointer->θ,slice->ρ,agg->τ
open Go.IntKind renaming i64->α
open Option renaming none->β,some->γ
open Go.AllReady renaming cons->δ,nil->η
open Go.Proofs.Tryz renaming prog->ζ
open List renaming size_toArray->ι,getElem?_append_right->μ,getElem?_append_left->ν,getElem?_eq_getElem->ς,length_take->σ,length_append->υ
open Go renaming World->κ,Value->π,Calls->φ
open Option.some renaming inj->ξ
open Go.RowKit.Below renaming refl->ο
namespace Go.Proofs.YtfpmnekaockodaaGreatDoor
open Go.RowKit Go.Sort
set_option maxRecDepth 4000
set_option maxHeartbeats 8000000
variable {B:Nat}{v:π}{w:κ}
def jE:(Tryz.prog.info? 150).map (fun i=>(i.zero,i.size,i.bytes))=γ (γ (θ none),1,8):=by kernel_rfl
def Bh.below{w':κ}{ls:List AH}(h:Bh w B v ls)(b:Below w.heap.size w w'):Bh w' B v ls:=Cj (F:=fun _=>False) h (Tu.of_below b) fun _ _=>id
def eC{ops:Array Oper}{o:Oper}{a:Act}{K:Act->κ->Prop}{Q:Exit->Act->κ->Prop}{E:Prop}(d:o.guard=β)(s x:Operand)
  (q:o.op=.call {callee:=.builtin .append,args:=#[s,x],argTypes:=#[114,114]}) (B:Nat) (v:π) (ls:List AH) (l:AH) (r:a.eval s=v) (c:Bh w B v ls) (b:Nat)
  (z:a.eval x=.slice (γ ⟨b,0,β⟩) 1 1) (n:w.heap[b]? =γ (.cells #[.pointer (γ ⟨l.g,0,β⟩)] 150 (0,0))) (D:ls.length<=1000000) (m:B<=w.heap.size)
  (h:∀g cap w',Bh w' B (.slice (γ ⟨g,0,β⟩) (ls.length+1) cap) (ls++[l])->w.grownBy w' v.ownBlock->K (a.put o.dst (.slice (γ ⟨g,0,β⟩) (ls.length+1) cap)) w'):
  if Region.wanted o (yielded ops a.tmps)=true then Oper.wp ζ o a w K Q else E:=by
 obtain⟨A,p,e,f,i⟩:=info_parts jE
 refine step_append_lies w d s x 114 q B 150 A (θ none) 1 8 underlying114 p e f i rfl (by decide) v ls.length (EY ls) r c ⟨b,0,β⟩ 1 1 [.pointer (γ ⟨l.g,0,β⟩)] z rfl
  (World.news_of_block n) (fun u y=>by rw[List.mem_singleton.1 y];rfl) (by decide) (by unfold maxLen;omega) (by omega) m _ rfl (fun g cap w' j k C _=>h g cap w' ?_ k)
 show w'.ownsRow B 150 1 _ (ls++[l]).length (EY (ls++[l]));rw[υ,show EY (ls++[l])=EY ls++[.pointer (γ ⟨l.g,0,β⟩)] by simp[EY]];exact j
def MD:(Tryz.prog.info? 99).map (fun i=>(i.zero,i.size,i.bytes))=γ (γ (τ #[U α 0,U α 0,ε ByteArray.empty]),3,32):=by kernel_rfl
structure AE where
 fr:Int
 dst:Int
 s:ByteArray
def AE.dflt:AE:=⟨0,0,⟨#[]⟩⟩
def AE.cells(f:AE):List π:=[U α f.fr,U α f.dst,ε f.s]
def cellsG(fs:List AE):List π:=fs.flatMap AE.cells
def He:∀fs:List AE,(cellsG fs).length=fs.length*3
 |[]=>rfl
 |f::fs=>by
  show(f.cells++cellsG fs).length=_;rw[υ,He fs,List.length_cons,Nat.add_mul,Nat.one_mul,Nat.add_comm];rfl
def SC:∀(fs:List AE) (i j:Nat),i<fs.length->j<3->(cellsG fs)[i*3+j]? =(fs.getD i .dflt).cells[j]?
 |[],i,j,h,_=>by simp at h
 |p::ps,0,j,_,b=>by
  show(p.cells++cellsG ps)[0*3+j]? =_;rw[Nat.zero_mul,Nat.zero_add,ν (by show j<3;exact b)];rfl
 |p::ps,i+1,j,h,b=>by
  have:=SC ps i j (by simpa using h) b;show(p.cells++cellsG ps)[(i+1)*3+j]? =_;rw[μ (by show 3<=_;omega),show(i+1)*3+j-p.cells.length=i*3+j from by show(i+1)*3+j-3=_;omega,this];rfl
def An(w:κ)(B:Nat)(v:π)(fs:List AE):Prop:=w.ownsRow B 99 3 v fs.length (cellsG fs)
def An.nil(w:κ)(B:Nat):An w B (ρ none 0 0) []:=World.ownsRow_nil _ _ _ _
def An.below{w':κ}{fs:List AE}(h:An w B v fs)(b:Below w.heap.size w w'):An w' B v fs:=Cj (F:=fun _=>False) h (Tu.of_below b) fun _ _=>id
def An.len{fs:List AE}(h:An w B v fs):∃a c,v=ρ a fs.length c:=by
 rcases h.2 with⟨rfl,d⟩|⟨g,cap,b,rfl,_⟩
 ·exact⟨β,0,by rw[d]⟩
 ·exact⟨_,_,rfl⟩
def An.at{fs:List AE}(h:An w B v fs)(k:0<fs.length):∃g cap,v=.slice (γ ⟨g,0,β⟩) fs.length cap/\∀i,i<fs.length->w.cell? ⟨g,i*3,β⟩=γ (U α (fs.getD i .dflt).fr)/\w.cell? ⟨g,i*3+1,β⟩=γ (U α (fs.getD i .dflt).dst)/\w.cell? ⟨g,i*3+2,β⟩=γ (ε (fs.getD i .dflt).s):=by
 have c:w.ownsRow B 99 3 v fs.length (cellsG fs):=h;rcases h.2 with⟨rfl,n⟩|⟨g,cap,d,rfl,o,p,k,q,l,ht⟩
 ·omega
 ·refine⟨g,cap,rfl,fun i e=>?_⟩
  have b:∀j,j<3->∀u,(fs.getD i .dflt).cells[j]? =γ u->w.cell? ⟨g,i*3+j,β⟩=γ u:=fun j f u m=>by
   have:=World.ownsRow.cells c (g:=g) rfl (i*3+j) u (by rw[SC fs i j e f];exact m);rwa[show(⟨g,0,β⟩:Addr).add (i*3+j)=⟨g,i*3+j,β⟩ by unfold Addr.add;split<;>simp_all]at this
  exact⟨b 0 (by decide) _ rfl,b 1 (by decide) _ rfl,b 2 (by decide) _ rfl⟩
def iK(w:κ):φ ζ 68 #[ρ none 0 0] w fun e w'=>e=.returned (ρ none 0 0)/\w'=w:=by
 have b:=fun wx=>Lib.run_eql_slice_nil (P:=ζ) wx 27 3 none 0 0 0 0 underlying27;go_enter func68,ntmps68;go_wp2;go_ret;exact⟨rfl,rfl⟩
variable {a:Act}{aft:Array Edge}{ops:Array Oper}{Q:Exit->Act->κ->Prop}{rest:List Oper}{cs:List π}{g:Nat}{dst:Option Tmp}{pos:String}{typ T:TypeId}{w:κ}
def PK(T:TypeId){n:Nat}{d:TypeDesc}(i:Tryz.prog.underlying T=γ d)(c:d.isRow=true)(e:(Tryz.prog.info? T).map (·.size)=γ n)(x:Tmp)(D:Nat)(cs:List π)(l:a.eval (.tmp x)=.pointer (γ ⟨D,0,β⟩))(b:BkA T w D cs)(f:cs.length=n)
  (h:wpList ζ ops Q rest (a.put dst (τ cs.toArray)) w):wpList ζ ops Q ({dst:=dst,op:=.load T (.tmp x),type:=typ,pos:=pos,after:=aft,guard:=β}::rest) a w:=
 wpList_load_mid rfl T (.tmp x) rfl D 0 l cs _ (fun j v k=>by rw[Nat.zero_add];exact b.at j k) i c (by rw[f];exact e) h
def JN(T:TypeId){n:Nat}(d:(Tryz.prog.info? T).map (·.size)=γ n)(x y:Tmp)(R:Nat)(cs us:List π)(l:a.eval (.tmp x)=.pointer (γ ⟨R,0,β⟩))(m:a.eval (.tmp y)=τ us.toArray)(b:BkA T w R cs)(o:cs.length=n)(i:us.length=n)(c:∀u∈us,u.oneCell'=true)
  (h:∀w',BkA T w' R us->Tu (fun j=>j=R) w w'->wpList ζ ops Q rest (a.put dst undef) w'):wpList ζ ops Q ({dst:=dst,op:=.store T (.tmp x) (.tmp y),type:=typ,pos:=pos,after:=aft,guard:=β}::rest) a w:=by
 refine wpList_store_mid rfl T (.tmp x) (.tmp y) rfl R 0 us.toArray l m (fun j f=>?_) (by rw[ι,i];exact d) (all_oneCell_toArray c) (h _ (b.setAll (by show us.length=cs.length;omega)) (Tu.of_gb (GJ R us 0 w) fun j _ e=>(ξ e).symm));rw[ι]at f;obtain⟨u,k⟩:∃u,cs[j]? =γ u:=⟨cs[j]'(by omega),ς (by omega)⟩;rw[Nat.zero_add];exact⟨by rw[b.at j k];rfl,b.frz j⟩
def BkA.load{n:Nat}{d:TypeDesc}(h:BkA T w g cs)(f:Tryz.prog.underlying T=γ d)(b:d.isRow=true)(c:(Tryz.prog.info? T).map (·.size)=γ n)(e:cs.length=n):(loadVar T ⟨g,0,β⟩).run ζ w=.ok (τ cs.toArray) w:=
 run_loadVar_mid (P:=ζ) w g 0 T cs _ (fun j v i=>by rw[Nat.zero_add];exact h.at j i) f b (by rw[e];exact c)
def Tu.cell{F:Nat->Prop}{w':κ}(h:Tu F w w'){p:Addr}{v:π}(hp:w.cell? p=γ v)(b:¬F p.block):w'.cell? p=γ v:=
 (World.cell?_of_block (w:=w) (h.block p.block (World.block_lt_of_cell? w p hp) b)).trans hp
def BkA.setMid{o:Nat}{us:List π}(h:BkA T w g cs)(l:o+us.length<=cs.length):BkA T (w.setCells g o us) g (cs.take o++us++cs.drop (o+us.length)):=by
 obtain⟨b,d,e,f⟩:=GK g T us o w cs.toArray h;unfold BkA;rw[d];have:b=(cs.take o++us++cs.drop (o+us.length)).toArray:=by
  apply Array.ext_getElem?;intro j;by_cases c:j<cs.length
  ·rw[f j (by simpa using c)]
   simp only[List.getElem?_toArray,List.append_assoc];by_cases i:j<o
   ·rw[if_neg (by omega),ν (by rw[σ];omega),List.getElem?_take,if_pos i]
   ·rw[μ (by rw[σ];omega),σ,Nat.min_eq_left (by omega)]
    by_cases k:j<o+us.length
    ·rw[if_pos (by omega),ν (by omega)]
    ·rw[if_neg (by omega),μ (by omega),List.getElem?_drop,show o+us.length+(j-o-us.length)=j by omega]
  ·rw[Array.getElem?_eq_none (by rw[e];simpa using c),Array.getElem?_eq_none (by simp;omega)]
 rw[this]
def BkA.there{o n:Nat}(h:BkA T w g cs)(d:o+n<=cs.length):w.there g o n:=fun j c=>by
 obtain⟨u,b⟩:∃u,cs[o+j]? =γ u:=⟨cs[o+j]'(by omega),ς (by omega)⟩;exact⟨by rw[h.at (o+j) b];rfl,h.frz (o+j)⟩
def Oa{p:Oper}{K:Act->κ->Prop}{E:Prop}(b:p.guard=β)(T c:TypeId){n:Nat}(k:(Tryz.prog.info? T).map (·.size)=γ n)(x y:Operand)(m:p.op=.store T x y)(R o:Nat)(cs us:List π)
  (r:a.eval x=.pointer (γ ⟨R,o,β⟩)) (s:a.eval y=τ us.toArray) (d:BkA c w R cs) (l:us.length=n) (f:o+us.length<=cs.length) (i:∀u∈us,u.oneCell'=true)
  (h:∀w',BkA c w' R (cs.take o++us++cs.drop (o+us.length))->Tu (fun j=>j=R) w w'->K (a.put p.dst undef) w'):
  if Region.wanted p (yielded ops a.tmps)=true then Oper.wp ζ p a w K Q else E:=by
 have q:Region.wanted p (yielded ops a.tmps)=true:=by simp[Region.wanted,b]
 rw[if_pos q];exact wp_store_mid T x y m R o us.toArray r s (by rw[ι];exact d.there f) (by rw[ι,l];exact k) (all_oneCell_toArray i) (h _ (d.setMid f) (Tu.of_gb (GJ R us o w) fun j _ e=>(ξ e).symm))
def Ld(T b:TypeId){n:Nat}(i:(Tryz.prog.info? T).map (·.size)=γ n)(x y:Tmp)(R o:Nat)(cs us:List π)(l:a.eval (.tmp x)=.pointer (γ ⟨R,o,β⟩))(m:a.eval (.tmp y)=τ us.toArray)(c:BkA b w R cs)(k:us.length=n)(d:o+us.length<=cs.length)(f:∀u∈us,u.oneCell'=true)
  (h:∀w',BkA b w' R (cs.take o++us++cs.drop (o+us.length))->Tu (fun j=>j=R) w w'->wpList ζ ops Q rest (a.put dst undef) w'):wpList ζ ops Q ({dst:=dst,op:=.store T (.tmp x) (.tmp y),type:=typ,pos:=pos,after:=aft,guard:=β}::rest) a w:=
 wpList_store_mid rfl T (.tmp x) (.tmp y) rfl R o us.toArray l m (by rw[ι];exact c.there d) (by rw[ι,k];exact i) (all_oneCell_toArray f) (h _ (c.setMid d) (Tu.of_gb (GJ R us o w) fun j _ e=>(ξ e).symm))
def kh(M:Int)(w:κ):
  φ ζ 74 #[U α M] w fun e w'=>e=.returned (.pointer (γ ⟨w.heap.size,0,β⟩))/\Ao w' w.heap.size w.heap.size M CQ w.heap.size (ρ none 0 0) []/\Below w.heap.size w w':=by
 go_enter func74,ntmps74;go_wp2;go_ret;exact⟨rfl,Z9 w M,(ο _ _).alloc (Nat.le_refl _) _⟩
def K0(t:ByteArray)(w:κ):φ ζ 158 #[.bool true,ε t] w fun e w'=>e=.returned (.tuple #[])/\w'=w:=by
 go_enter func158,ntmps158;go_wp2;go_end0;exact⟨rfl,rfl⟩
def MW(t:ByteArray)(w:κ):φ ζ 158 #[.bool false,ε t] w fun e w'=>e=.panicked [{v:=.iface 9 (ε t),recovered:=false}]/\w'=w:=by
 go_enter func158,ntmps158;go_wp2;exact⟨rfl,rfl,rfl⟩
def JY(o l k z h:Int)(x y:π)(w:κ):
  φ ζ 160 #[τ #[U α o,U α l,U α k,U α z,U α h,x,y]] w fun e w'=>e=.returned (τ #[U α o,U α l,U α k,U α z])/\Below w.heap.size w w':=by
 go_enter func160,ntmps160;go_wp2;exact bodyPost_ret (v:=τ #[U α o,U α l,U α k,U α z]) (by simp[results,Tryz.results160,go_sem]) rfl ⟨rfl,((ο _ _).alloc (Nat.le_refl _) _).alloc (by simp) _⟩
def QR(o l k z i h f j:Int)(W:κ):
  (binOp .eql 171 (τ #[U α o,U α l,U α k,U α z]) (τ #[U α i,U α h,U α f,U α j])).run ζ W=.ok (.bool (decide (o=i/\l=h/\k=f/\z=j))) W:=by
 rw[run_eql_struct,run_equalIn_struct (d:=9999) (ht:=by kernel_rfl) (hp:=by kernel_rfl)];simp only[Program.fieldsOf,underlying171];by_cases b:o=i
 ·by_cases c:l=h
  ·by_cases e:k=f
   ·by_cases m:z=j
    ·simp[Op.eqFields,BL,go_sem,underlying3,b,c,e,m]
    ·simp[Op.eqFields,BL,go_sem,underlying3,b,c,e,m]
   ·simp[Op.eqFields,BL,go_sem,underlying3,b,c,e]
  ·simp[Op.eqFields,BL,go_sem,underlying3,b,c]
 ·simp[Op.eqFields,BL,go_sem,underlying3,b]
def gD(g B:Nat)(M:Int)(p:PKV)(w:κ)(h:Ao w g B M CQ g (ρ none 0 0) [])(hp:DD p=true):
  φ ζ 159 #[.pointer (γ ⟨g,0,β⟩),τ #[U α p.o,U α p.l,U α p.k,U α p.z,U α p.h,.slice p.r.a p.r.n p.r.c,ε p.r.s]] w fun e w'=>
   e=.returned (.tuple #[])/\∃gs,Ao w' g B M (Cs CQ p) gs (ρ none 0 0) []/\Tu (fun j=>j=g) w w'/\w.heap.size<=gs:=by
 have x:=As w (.cells #[U α p.o,U α p.l,U α p.k,U α p.z,U α p.h,.slice p.r.a p.r.n p.r.c,ε p.r.s] 75);have f:=AI 75 w [U α p.o,U α p.l,U α p.k,U α p.z,U α p.h,.slice p.r.a p.r.n p.r.c,ε p.r.s];have hq:=h.blk.below x;have Y:=h.lo;have ad:=h.lt;have A:γ w.heap.size≠γ g:=fun e=>by have:=ξ e;omega
 have V:=Ab (BU.beg (s:=CQ) (fun e=>by cases e) hp);have hE:w.alloc (.cells [U α p.o,U α p.l,U α p.k,U α p.z,U α p.h,.slice p.r.a p.r.n p.r.c,ε p.r.s].toArray 75)=w.alloc (.cells #[U α p.o,U α p.l,U α p.k,U α p.z,U α p.h,.slice p.r.a p.r.n p.r.c,ε p.r.s] 75):=rfl;rw[hE]at f;clear hE h;generalize hW:w.alloc (.cells #[U α p.o,U α p.l,U α p.k,U α p.z,U α p.h,.slice p.r.a p.r.n p.r.c,ε p.r.s] 75)=W at*;have q0:=f.at 0 rfl;have q1:=f.at 1 rfl;have q2:=f.at 2 rfl;have q3:=f.at 3 rfl;have q4:=f.at 4 rfl;have q5:=f.at 5 rfl;have q6:=f.at 6 rfl;have J:=Ab (JY p.o p.l p.k p.z p.h (.slice p.r.a p.r.n p.r.c) (ε p.r.s) W);have HX:=Ab f;have HK:=Ab hq;have D:=Ab x;clear f hq x;go_enter func159,ntmps159;go_wp2_with fail;refine(Aa J).mono ?_;rintro e w1 ⟨rfl,i⟩;have b:=(Aa HK).below i;have R:=(Aa HX).below i;have d0:=b.at 0 rfl;have d1:=b.at 1 rfl;have d2:=b.at 2 rfl;have d3:=b.at 3 rfl;have d4:=b.at 4 rfl;have d5:=b.at 5 rfl;have f1:=b.frz 1;have f2:=b.frz 2;have f3:=b.frz 3;have f4:=b.frz 4;have H:=Ab b;have K:=Ab R;have E:=Ab (Ad (Aa D) i);clear q0 q1 q2 q3 q4 q5 q6 J HX HK D i b R;go_wp2_with fail;have m:=((((Aa H).set 1 (U α p.o)).set 2 (U α p.l)).set 3 (U α p.k)).set 4 (U α p.z)
 have y:w1.grownBy ((((w1.setCell ⟨g,1,β⟩ (U α p.o)).setCell ⟨g,2,β⟩ (U α p.l)).setCell ⟨g,3,β⟩ (U α p.k)).setCell ⟨g,4,β⟩ (U α p.z)) (γ g):=
  Bx (Bx (Bx (Bz _ _ _ _) (Bz _ _ _ _) (.inl rfl)) (Bz _ _ _ _) (.inl rfl)) (Bz _ _ _ _) (.inl rfl)
 have d:=(Aa K).kept y A;have O:=Tu.after (Aa E) (Tu.of_gb (F:=fun j=>j=g) y fun j _ e=>(ξ e).symm);clear d0 d1 d2 d3 d4 d5 f1 f2 f3 f4 H K E y;generalize (((w1.setCell ⟨g,1,β⟩ (U α p.o)).setCell ⟨g,2,β⟩ (U α p.l)).setCell ⟨g,3,β⟩ (U α p.k)).setCell ⟨g,4,β⟩ (U α p.z)=w2 at*;have q2:=d.at 2 rfl;have q3:=d.at 3 rfl;have d0:=m.at 0 rfl;have aa:=Ab m;have ab:=Ab d;have q:=Ab O;have HQ:=Ab (fun wx (hb:Below w2.heap.size w2 wx)=>show _/\_ from⟨m.below hb,d.below hb⟩);clear m d O
 go_region_held3 (fun w'=>w'.cell? ⟨w.heap.size,2,β⟩=γ (U α p.k)/\w'.cell? ⟨w.heap.size,3,β⟩=γ (U α p.z)/\w'.cell? ⟨g,0,β⟩=γ (U α M)) (go_keep) (first
  |(go_at_call 183;refine(oR p.k p.z M _).mono ?_;rintro e w3 ⟨rfl,N,L⟩;have D3:=Ab (show Below w2.heap.size w2 w3 from Ad (ο _ _).drew L);have X:=Ab N;obtain⟨C,S⟩:=Aa HQ w3 (Aa D3);have r2:=S.at 2 rfl;have r3:=S.at 3 rfl;have e0:=C.at 0 rfl;have e5:=C.at 5 rfl;have ac:=C.frz 5;have I:=Ab C;have s0:∀u,(w3.setCell ⟨g,5,β⟩ u).cell? ⟨g,0,β⟩=γ (U α M):=fun u=>(C.set 5 u).at 0 rfl;have s2:∀u,(w3.setCell ⟨g,5,β⟩ u).cell? ⟨w.heap.size,2,β⟩=γ (U α p.k):=fun u=>(S.kept (Bz _ _ _ _) A).at 2 rfl;have s3:∀u,(w3.setCell ⟨g,5,β⟩ u).cell? ⟨w.heap.size,3,β⟩=γ (U α p.z):=fun u=>(S.kept (Bz _ _ _ _) A).at 3 rfl;clear N L C S)
  |fail)
 all_goals go_wp2
 go_end0;have P:=A8 w3 g 5 (.pointer (γ ⟨w2.heap.size,0,β⟩));have Z:B<=w2.heap.size:=by have:=(Aa q).size;omega
 refine⟨rfl,w2.heap.size,⟨(Aa I).set 5 _,Y,fun _=>⟨((Aa X).mono Z).sets (Aa I) P (by decide) (by decide) (by decide),Aa V⟩,(fun e=>by cases e),rfl⟩,?_,(Aa q).size⟩;exact((Aa q).then (Aa D3)).trans P fun j _ e=>e
def LF(e:Ending):Prop:=∃t,e=.panicked [{v:=.iface 9 (ε t),recovered:=false}]
def C3(b:Bool)(e:Ending):Prop:=(b=true->e=.returned (.tuple #[]))/\(b=false->LF e)
def C3.no{b:Bool}{e:Ending}(h:b=false)(d:LF e):C3 b e:=⟨(fun c=>by rw[h]at c;cases c),fun _=>d⟩
def C3.yes{b:Bool}{e:Ending}(h:b=true)(d:e=.returned (.tuple #[])):C3 b e:=⟨fun _=>d,fun c=>by rw[h]at c;cases c⟩
def aX{p:PKV}(h:DD p=false):EN 1 (Cd p.o p.l p.k p.z p.h p.r.xs p.r.s.size):=by
 have:=QF p;rw[h]at this;exact this
def QO{p:PKV}(h:DD p=true):EN 0 (Cd p.o p.l p.k p.z p.h p.r.xs p.r.s.size):=by
 have:=QF p;rw[h]at this;exact this
def jl(g:Nat)(p:PKV)(w:κ)(m:RowAt w p.r.a p.r.n p.r.xs)(hp:DD p=false):
  φ ζ 126 #[.pointer (γ ⟨g,0,β⟩),τ #[U α p.o,U α p.l,U α p.k,U α p.z,U α p.h,.slice p.r.a p.r.n p.r.c,ε p.r.s]] w fun e w'=>LF e/\Below w.heap.size w w':=by
 have b:=As w (.cells #[U α p.o,U α p.l,U α p.k,U α p.z,U α p.h,.slice p.r.a p.r.n p.r.c,ε p.r.s] 75);have j:=Ab (ES p.o p.l p.k p.z p.h p.r.a p.r.n p.r.c p.r.xs p.r.s _ (m.below b) 1 (aX hp));have d:=Ab b;clear b m;go_enter func126,ntmps126;go_wp2_with fail;refine(Aa j).mono ?_;rintro e w1 ⟨rfl,f⟩;have i:=Ab (Ad (Aa d) f);clear f j d;go_wp2_with fail;refine(MW _ _).mono ?_;rintro e w2 ⟨rfl,q⟩;obtain rfl:=q.symm;go_wp2;exact⟨rfl,⟨_,rfl⟩,Aa i⟩
def Tv(g B:Nat)(M:Int)(s:DS)(gs:Nat)(v:π)(rs:List RV)(p:PKV)(w:κ)(h:Ao w g B M s gs v rs)(hg:s.bg=true)(hr:RowAt w p.r.a p.r.n p.r.xs)(hp:DD p=true):
  φ ζ 126 #[.pointer (γ ⟨g,0,β⟩),τ #[U α p.o,U α p.l,U α p.k,U α p.z,U α p.h,.slice p.r.a p.r.n p.r.c,ε p.r.s]] w fun e w'=>C3 (La s p) e/\Below w.heap.size w w':=by
 have D:=As w (.cells #[U α p.o,U α p.l,U α p.k,U α p.z,U α p.h,.slice p.r.a p.r.n p.r.c,ε p.r.s] 75);have A:=AI 75 w [U α p.o,U α p.l,U α p.k,U α p.z,U α p.h,.slice p.r.a p.r.n p.r.c,ε p.r.s];have Y:=Ab (ES p.o p.l p.k p.z p.h p.r.a p.r.n p.r.c p.r.xs p.r.s _ (hr.below D) 0 (QO hp));have V:=h.blk.below D;rw[hg,show FY true gs=γ ⟨gs,0,β⟩ from rfl]at V;have u:=Ab (show La s p=decide (p.o=s.o/\p.l=s.l/\p.k=s.k/\p.z=s.z) from rfl);have I:=QR p.o p.l p.k p.z s.o s.l s.k s.z;have hE:w.alloc (.cells [U α p.o,U α p.l,U α p.k,U α p.z,U α p.h,.slice p.r.a p.r.n p.r.c,ε p.r.s].toArray 75)=w.alloc (.cells #[U α p.o,U α p.l,U α p.k,U α p.z,U α p.h,.slice p.r.a p.r.n p.r.c,ε p.r.s] 75):=rfl;rw[hE]at A;clear hE h hr;generalize hW:w.alloc (.cells #[U α p.o,U α p.l,U α p.k,U α p.z,U α p.h,.slice p.r.a p.r.n p.r.c,ε p.r.s] 75)=W at*;have HX:=Ab A;have Z:=Ab V;have H:=Ab D;have q0:=A.at 0 rfl;have q1:=A.at 1 rfl;have q2:=A.at 2 rfl;have q3:=A.at 3 rfl;have q4:=A.at 4 rfl;have q5:=A.at 5 rfl;have q6:=A.at 6 rfl;clear A V D;go_enter func126,ntmps126;go_wp2_with fail;refine(Aa Y).mono ?_;rintro e w1 ⟨rfl,E⟩;have m:=(Aa Z).below E;have j:=(Aa HX).below E;have d0:=m.at 0 rfl;have d1:=m.at 1 rfl;have d2:=m.at 2 rfl;have d3:=m.at 3 rfl;have d4:=m.at 4 rfl;have d5:=m.at 5 rfl;have C:=Ab (Ad (Aa H) E);have L:=Ab m;have N:=Ab j;clear E Y H HX Z q0 q1 q2 q3 q4 q5 q6 m;have q0:=j.at 0 rfl;have q1:=j.at 1 rfl;have q2:=j.at 2 rfl;have q3:=j.at 3 rfl;have q4:=j.at 4 rfl;have q5:=j.at 5 rfl;have q6:=j.at 6 rfl;have J:=Ab (fun wx (hb:Below w1.heap.size w1 wx)=>show _/\_ from⟨(Aa L).below hb,(Aa N).below hb⟩);clear j;have aa:Tryz.prog.eqGuardType Tryz.prog.depth 171=false:=by kernel_rfl
 go_wp2_with (go_at_call 158;refine(K0 _ _).mono ?_;rintro e w2 ⟨rfl,y⟩;obtain rfl:=y.symm;clear y);cases hd:decide (p.o=s.o/\p.l=s.l/\p.k=s.k/\p.z=s.z)
 ·rw[hd]at I u
  refine wp_region_any (by kernel_rfl) ?_;change wpAny _ _ _ _ _ _ _ (World.drew _);refine wpAny_take (i:=2) (v:=?_) rfl (by kernel_rfl) (by kernel_rfl) (by kernel_rfl) (fun _ _ _ h=>h) (Or.inl ⟨by rfl,?f2⟩) ?_
  case f2=>(intro w;go_simp;try with_reducible rfl)
  refine wpAny_take (i:=3) (v:=?_) rfl (by kernel_rfl) (by kernel_rfl) (by kernel_rfl) (fun _ _ _ h=>h) (Or.inl ⟨by rfl,?f3⟩) ?_
  case f3=>(intro w;go_simp;try with_reducible rfl)
  refine wpAny_take (i:=4) (v:=?_) rfl (by kernel_rfl) (by kernel_rfl) (by kernel_rfl) (fun _ _ _ h=>h) (Or.inl ⟨by rfl,?f4⟩) ?_
  case f4=>(intro w;go_simp;try with_reducible rfl)
  refine wpAny_ready (rs:=[0,5]) (by kernel_rfl) (by simp) ?_;refine δ rfl (fun K b=>?r1) (δ rfl (fun K b=>?r2) η)
  case r1=>
   go_simp;refine b _ _ ?_;clear b K;refine wpAny_ready (rs:=[1,5]) (by kernel_rfl) (by simp) ?_;refine δ rfl (fun K b=>?s1) (δ rfl (fun K b=>?s2) η)
   case s1=>
    go_simp;refine(JY p.o p.l p.k p.z p.h (.slice p.r.a p.r.n p.r.c) (ε p.r.s) _).mono ?_;rintro e w3 ⟨rfl,d⟩;have x:=Ab (show Below w1.heap.size w1 w3 from Ad (ο _ _).drew d);obtain⟨f,q⟩:=Aa J w3 (Aa x);have O:=f.at 1 rfl;have P:=f.at 2 rfl;have R:=f.at 3 rfl;have S:=f.at 4 rfl;clear d f q;refine b _ _ ?_;clear b K;refine wpAny_ready (rs:=[5]) (by kernel_rfl) (by simp) ?_;refine δ rfl (fun K b=>?_) η;go_simp;refine b _ _ ?_;clear b K;refine wpAny_ready (rs:=[6]) (by kernel_rfl) (by simp) ?_;refine δ rfl (fun K b=>?_) η;go_simp;refine b _ _ ?_;clear b K;refine wpAny_ready (rs:=[7]) (by kernel_rfl) (by simp) ?_;refine δ rfl (fun K b=>?_) η;go_simp;refine(MW _ _).mono ?_;rintro e X ⟨rfl,y⟩;obtain rfl:=y.symm;exact⟨rfl,C3.no (Aa u) ⟨_,rfl⟩,Ad (Aa C) (Aa x)⟩
   case s2=>
    go_simp;refine b _ _ ?_;clear b K;refine wpAny_ready (rs:=[1]) (by kernel_rfl) (by simp) ?_;refine δ rfl (fun K b=>?_) η;go_simp;refine(JY p.o p.l p.k p.z p.h (.slice p.r.a p.r.n p.r.c) (ε p.r.s) _).mono ?_;rintro e w3 ⟨rfl,d⟩;have x:=Ab (show Below w1.heap.size w1 w3 from Ad (ο _ _).drew d);obtain⟨f,q⟩:=Aa J w3 (Aa x);have O:=f.at 1 rfl;have P:=f.at 2 rfl;have R:=f.at 3 rfl;have S:=f.at 4 rfl;clear d f q;refine b _ _ ?_;clear b K;refine wpAny_ready (rs:=[6]) (by kernel_rfl) (by simp) ?_;refine δ rfl (fun K b=>?_) η;go_simp;refine b _ _ ?_;clear b K;refine wpAny_ready (rs:=[7]) (by kernel_rfl) (by simp) ?_;refine δ rfl (fun K b=>?_) η;go_simp;refine(MW _ _).mono ?_;rintro e X ⟨rfl,y⟩;obtain rfl:=y.symm;exact⟨rfl,C3.no (Aa u) ⟨_,rfl⟩,Ad (Aa C) (Aa x)⟩
  case r2=>
   go_simp;refine b _ _ ?_;clear b K;refine wpAny_ready (rs:=[0]) (by kernel_rfl) (by simp) ?_;refine δ rfl (fun K b=>?_) η;go_simp;refine b _ _ ?_;clear b K;refine wpAny_ready (rs:=[1]) (by kernel_rfl) (by simp) ?_;refine δ rfl (fun K b=>?_) η;go_simp;refine(JY p.o p.l p.k p.z p.h (.slice p.r.a p.r.n p.r.c) (ε p.r.s) _).mono ?_;rintro e w3 ⟨rfl,d⟩;have x:=Ab (show Below w1.heap.size w1 w3 from Ad (ο _ _).drew d);obtain⟨f,q⟩:=Aa J w3 (Aa x);have O:=f.at 1 rfl;have P:=f.at 2 rfl;have R:=f.at 3 rfl;have S:=f.at 4 rfl;clear d f q;refine b _ _ ?_;clear b K;refine wpAny_ready (rs:=[6]) (by kernel_rfl) (by simp) ?_;refine δ rfl (fun K b=>?_) η;go_simp;refine b _ _ ?_;clear b K;refine wpAny_ready (rs:=[7]) (by kernel_rfl) (by simp) ?_;refine δ rfl (fun K b=>?_) η;go_simp;refine(MW _ _).mono ?_;rintro e X ⟨rfl,y⟩;obtain rfl:=y.symm;exact⟨rfl,C3.no (Aa u) ⟨_,rfl⟩,Ad (Aa C) (Aa x)⟩
 ·rw[hd]at I u
  go_region_held3 (fun w'=>w'.cell? ⟨w.heap.size,0,β⟩=γ (U α p.o)/\w'.cell? ⟨w.heap.size,1,β⟩=γ (U α p.l)/\w'.cell? ⟨w.heap.size,2,β⟩=γ (U α p.k)/\w'.cell? ⟨w.heap.size,3,β⟩=γ (U α p.z)/\w'.cell? ⟨w.heap.size,4,β⟩=γ (U α p.h)/\w'.cell? ⟨w.heap.size,5,β⟩=γ (.slice p.r.a p.r.n p.r.c)/\w'.cell? ⟨w.heap.size,6,β⟩=γ (ε p.r.s)/\w'.cell? ⟨g,1,β⟩=γ (U α s.o)/\w'.cell? ⟨g,2,β⟩=γ (U α s.l)/\w'.cell? ⟨g,3,β⟩=γ (U α s.k)/\w'.cell? ⟨g,4,β⟩=γ (U α s.z)) (go_keep) (first
   |(go_at_call 160;refine(JY p.o p.l p.k p.z p.h (.slice p.r.a p.r.n p.r.c) (ε p.r.s) _).mono ?_;rintro e w3 ⟨rfl,d⟩;have x:=Ab (show Below w1.heap.size w1 w3 from Ad (ο _ _).drew d);obtain⟨f,q⟩:=Aa J w3 (Aa x);have r0:=q.at 0 rfl;have r1:=q.at 1 rfl;have r2:=q.at 2 rfl;have r3:=q.at 3 rfl;have r4:=q.at 4 rfl;have r5:=q.at 5 rfl;have r6:=q.at 6 rfl;have O:=f.at 1 rfl;have P:=f.at 2 rfl;have R:=f.at 3 rfl;have S:=f.at 4 rfl;clear d f q)
   |(go_at_call 158;refine(K0 _ _).mono ?_;rintro e X ⟨rfl,y⟩;obtain rfl:=y.symm;clear y)
   |fail)
  all_goals (try go_wp2)
  all_goals go_end0
  all_goals exact⟨C3.yes (Aa u) rfl,Ad (Aa C) (Aa x)⟩
end Go.Proofs.YtfpmnekaockodaaGreatDoor
