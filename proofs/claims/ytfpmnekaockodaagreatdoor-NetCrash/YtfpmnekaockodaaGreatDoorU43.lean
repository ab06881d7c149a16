/- Laws for the proof. -/
import Derived.Test.YtfpmnekaockodaaGreatDoorU42
set_option linter.all false
open Go.Proofs.Tryz
open Go.World renaming block_lt_of_cell?->U,frozen?->ω
open Option renaming some->α,none->β
open Go.Value renaming slice->γ,int->ζ,string->ν,pointer->χ,slice->Δ
open Go.Value.slice renaming injEq->δ
open Go.Proofs.Tryz renaming prog->ε
open Go.IntKind renaming i64->η,wrap_i64->Ε
open List renaming length_take->θ,getElem?_eq_getElem->ι,length_append->κ,getElem?_take->μ,getElem?_eq_none->ο,eq_nil_of_length_eq_zero->ς,getD_eq_getElem?_getD->τ,ext_getElem?->υ,getElem?_set->φ,length_set->ψ,getElem?_map->Γ
open Option.some renaming injEq->ξ
open Nat renaming le_refl->π,add_zero->Β
open Go renaming World->ρ,Value->Α
open Or renaming inl->σ
namespace Go.Proofs.YtfpmnekaockodaaGreatDoor
open Go.RowKit Go.Sort
set_option maxRecDepth 4000
set_option maxHeartbeats 8000000
variable {n:Ap}{T:Az}{g B q i cap:Nat}{w:ρ}
def NK(a b:List AE):cellsG (a++b)=cellsG a++cellsG b:=by simp[cellsG]
def Oh:∀(fs:List AE),∀u∈cellsG fs,u.oneCell'=true:=fun fs u a=>by
 obtain⟨f,_,h⟩:=List.mem_flatMap.1 a;simp only[AE.cells,List.mem_cons,List.not_mem_nil,or_false]at h;rcases h with h|h|h<;>(rw[h];rfl)
def NO(fs:List AE)(i:Nat)(b:i<=fs.length):(cellsG fs).take (i*3)=cellsG (fs.take i)/\(cellsG fs).drop (i*3)=cellsG (fs.drop i):=by
 have e:cellsG fs=cellsG (fs.take i)++cellsG (fs.drop i):=by rw[<-NK,List.take_append_drop]
 have a:(cellsG (fs.take i)).length=i*3:=by rw[He,θ,Nat.min_eq_left b]
 rw[e];exact⟨by rw[<-a];exact List.take_left,by rw[<-a];exact List.drop_left⟩
def dy{ops:Array Oper}{o:Oper}{a:Act}{K:Act->ρ->Prop}{Q:Exit->Act->ρ->Prop}{E:Prop}(l:o.guard=β)(s x:Operand)
  (H:o.op=.call {callee:=.builtin .append,args:=#[s,x],argTypes:=#[46,46]}) (B:Nat) (v:Α) (fs us:List AE) (I:a.eval s=v) (b:An w B v fs) (z:Α) (J:a.eval x=z)
  (m:(z=γ none 0 0/\us=[])\/∃k c,z=.slice (α k) us.length c/\∀j u,(cellsG us)[j]? =α u->w.cell? (k.add j)=α u) (V:fs.length+us.length<=1000000) (R:B<=w.heap.size)
  (h:∀A C w',An w' B (γ A (fs.length+us.length) C) (fs++us)->w.grownBy w' v.ownBlock->K (a.put o.dst (γ A (fs.length+us.length) C)) w'):
  if Region.wanted o (yielded ops a.tmps)=true then Oper.wp ε o a w K Q else E:=by
 obtain⟨L,D,p,r,y⟩:=info_parts MD;rw[if_pos (by simp[Region.wanted,l])];rcases m with⟨rfl,rfl⟩|⟨k,c,rfl,S⟩
 ·obtain⟨a0,c0,f⟩:=b.len
  have e:=run_append_owned_none (P:=ε) (w:=w) B 46 o.type 99 L 3 underlying46 D v fs.length (cellsG fs) b;have:=h a0 c0 w (by rw[List.append_nil];show An w B (γ a0 fs.length c0) fs;rw[<-f];exact b) (Gn w _);unfold Oper.wp;rw[show fs.length+([]:List AE).length=fs.length from rfl,<-f]at this;simp[execOp,H,resolve,invoke,builtin,I,J,e,Result.andThen];exact this
 ·refine wp_append_own w s x 46 H B 99 L _ 3 32 underlying46 D p r y rfl (by decide) v fs.length (cellsG fs) I b k us.length c (cellsG us) J (He us) S (Oh us) (by unfold maxLen;omega) (by omega) R (fun v' w' N O _=>?_)
  have d:An w' B v' (fs++us):=by
   show w'.ownsRow B 99 3 v' (fs++us).length (cellsG (fs++us));rw[κ,NK];exact N
  obtain⟨a0,c0,f⟩:=d.len;rw[κ]at f;rw[f]at d⊢;exact h a0 c0 w' d O
def Al.nn(h:Al w g B n):∀j,A9 g n j->kdB w j≠89+2/\kdB w j≠90+2:=fun j a=>by
 rcases a with rfl|a|⟨r,b,a⟩|a
 ·have:=h.blk.kd;omega
 ·have:=Bc h.tos a;omega
 ·have:=(h.src r b).kd j a;omega
 ·have:=h.st.kd j a;omega
def F4(q:Nat)(T:Az)(j:Nat):Prop:=j=q\/T.wv.ownBlock=α j
def Aw.kd(h:Aw w q B T):∀j,F4 q T j->kdB w j=89+2\/kdB w j=99+2:=fun j a=>by
 rcases a with rfl|a
 ·exact .inl h.blk.kd
 ·exact .inr (Bc h.fly a)
def Aw.way{w':ρ}(h:Aw w q B T)(ht:Tu (F4 q T) w w'){now:Int}{wv:Α}{fs:List AE}(c:BkA 89 w' q [T.nv,ζ η now,wv])(d:An w' B wv fs)(f:fs.length<=512)(k:0<=now/\now<=1099511627776):Aw w' q B ⟨T.nv,T.ns,now,wv,fs⟩:=
 ⟨c,h.lo,Cj h.own ht fun j a e=>by have:=Bc h.own a;have:=h.kd j e;omega,
  fun i x b=>(h.each i x b).tu ht (fun j a e=>by have:=(h.each i x b).nn j a;have:=(h.each i x b).nk j a;have:=h.kd j e;omega) fun j a e=>(by have:=h.kd j e;omega),h.apart,d,⟨h.few.1,f⟩,k⟩
def Aw.store2{w1:ρ}{wv:Α}{fs:List AE}(h:Aw w q B T)(b:w.grownBy w1 T.wv.ownBlock)(d:An w1 B wv fs)(k:fs.length<=512):
  Aw (w1.setCell ⟨q,2,β⟩ wv) q B ⟨T.nv,T.ns,T.now,wv,fs⟩/\Tu (F4 q T) w (w1.setCell ⟨q,2,β⟩ wv):=by
 have a:α q≠T.wv.ownBlock:=fun e=>by
  have:=Bc h.fly e.symm;have:=h.blk.kd;omega
 have c:=h.blk.kept b a;have ht:Tu (F4 q T) w (w1.setCell ⟨q,2,β⟩ wv):=(Tu.of_gb (F:=F4 q T) b fun j _ e=>.inr e).trans (A8 w1 q 2 wv) fun j _ e=>.inl e;refine⟨h.way ht (c.set 2 wv) (Cj d (A8 w1 q 2 wv) fun j f e=>?_) k h.now0,ht⟩;have:=Bc d f;have:=c.kd;subst e;omega
def iD(ns:List Bg)(i:Nat)(x:Bg)(n:Ap)(a:ns[i]? =α x):Ev (ns.set i ⟨x.g,n⟩)=Ev ns:=by
 unfold Ev;apply υ;intro j;rw[Γ,Γ,φ];split
 ·rename_i e
  subst e;rw[a];split
  ·rfl
  ·rename_i h
   exact absurd (List.getElem?_eq_some_iff.1 a).1 h
 ·rfl
def Mj{ns:List Bg}{j:Nat}{x y:Bg}(b:ns[i]? =α x)(a:(ns.set i ⟨x.g,n⟩)[j]? =α y):(j=i/\y=⟨x.g,n⟩)\/(j≠i/\ns[j]? =α y):=by
 rw[φ]at a;split at a
 ·rename_i e
  rw[if_pos (List.getElem?_eq_some_iff.1 b).1]at a;exact .inl ⟨e.symm,(Option.some.inj a).symm⟩
 ·rename_i e
  exact .inr ⟨fun q=>e q.symm,a⟩
def Aw.node{w':ρ}(h:Aw w q B T){x:Bg}(f:T.ns[i]? =α x){n:Ap}(D:Al w' x.g B n)(ht:Tu (A9 x.g x.n) w w')(E:∀j,j<w.heap.size->A9 x.g n j->A9 x.g x.n j):Aw w' q B ⟨T.nv,T.ns.set i ⟨x.g,n⟩,T.now,T.wv,T.fs⟩:=by
 have X:=h.each i x f;have m:∀k y,T.ns[k]? =α y->k≠i->∀j,A9 y.g y.n j->¬A9 x.g n j:=fun k y c o j d e=>h.apart k i y x c f o j d (E j ((h.each k y c).lt j d) e);refine⟨h.blk.tu ht fun e=>(X.nn _ e).1 h.blk.kd,h.lo,?_,fun k y c=>?_,fun a b y z c H l j=>?_,Cj h.fly ht fun j d e=>(X.nk j e).1 (Bc h.fly d),⟨by show(T.ns.set i _).length<=8;rw[ψ];exact h.few.1,h.few.2⟩,h.now0⟩
 ·show w'.ownsRow B 90 1 T.nv (T.ns.set i _).length (Ev _)
  rw[ψ,iD _ _ _ _ f];exact Cj h.own ht fun j d e=>(X.nn j e).2 (Bc h.own d)
 ·rcases Mj f c with⟨rfl,rfl⟩|⟨o,c⟩
  ·exact D
  ·exact(h.each k y c).tu ht (fun j d=>h.apart k i y x c f o j d) fun j o e=>(X.nk j e).2 o
 ·rcases Mj f c with⟨rfl,rfl⟩|⟨A,p⟩<;>rcases Mj f H with⟨v,rfl⟩|⟨C,r⟩
  ·exact absurd v.symm l
  ·exact fun s u=>m b z r C j u s
  ·exact fun s u=>m a y p A j s u
  ·exact h.apart a b y z p r l j
def kA(a:Option Addr)(n c k:Nat)(f:k<=c)(w:ρ):(Instr.sliceAt 46 (γ a n c) none (α (ζ η (k:Int))) none).run ε w=.ok (γ a k c) w:=by
 have d:Tryz.prog.underlying 46=α (.slice (Tryz.prog.elem 46)):=by kernel_rfl
 have b:Tryz.prog.elem 46=99:=by kernel_rfl
 have e:∀w:ρ,(sizeOf 99).run ε w=.ok 3 w:=fun w=>by kernel_rfl
 rw[run_sliceAt_slice _ _ _ _ _ _ d,run_slice_h _ _ _ _ _ d _ _ (by omega) (by omega),b,e];cases a<;>simp[Result.andThen,sliced,Addr.add]
def onto(fs us:List AE):List AE:=fs++us.take (512-fs.length)
def sG{fs us:List AE}(h:fs.length<=512):(onto fs us).length<=512:=by
 unfold onto;rw[κ,θ];omega
def ig(q B B2:Nat)(T:Az)(v:Α)(us:List AE)(w:ρ)(h:Aw w q B T)(y:An w B2 v us)(hl:us.length<=4096):
  Calls ε 48 #[.pointer (α ⟨q,0,β⟩),v] w fun e w'=>e=.returned (.tuple #[])/\∃wv,Aw w' q B ⟨T.nv,T.ns,T.now,wv,onto T.fs us⟩/\Tu (F4 q T) w w':=by
 obtain⟨C,c2,a⟩:=y.len;obtain⟨A,c1,b⟩:=h.fly.len;have k:=h.few.2;have P:us.length<=c2:=by
  rcases y.2 with⟨e,Y⟩|⟨g,cap,O,e,_,_,hn,_⟩
  ·rw[e]at a
   simp only[δ]at a;omega
  ·rw[e]at a
   simp only[δ]at a;omega
 obtain⟨m,S⟩:∃m,min us.length (512-T.fs.length)=m:=⟨_,rfl⟩;have s:min (us.length:Int) (512-(T.fs.length:Int))=(m:Int):=by omega
 have V:=Iz (us.length:Int) (512-(T.fs.length:Int));rw[s]at V;have ac:=kA C us.length c2 m (by omega);have f:(us.take (512-T.fs.length)).length=m:=by rw[θ,<-S,Nat.min_comm]
 have z:(Δ C m c2=γ none 0 0/\us.take (512-T.fs.length)=[])\/∃X c,Δ C m c2=.slice (α X) (us.take (512-T.fs.length)).length c/\∀j u,(cellsG (us.take (512-T.fs.length)))[j]? =α u->w.cell? (X.add j)=α u:=by
  rcases y.2 with⟨e,Y⟩|⟨g,cap,O,e,_⟩
  ·rw[a]at e
   simp only[δ]at e;have e0:us=[]:=ς Y;subst e0;refine .inl ⟨?_,by simp⟩;rw[e.1,e.2.2,show m=0 from by rw[<-S];simp]
  ·rw[a]at e
   simp only[δ]at e;refine .inr ⟨⟨g,0,β⟩,c2,by rw[f,e.1],fun j u Z=>?_⟩;have R:=(List.getElem?_eq_some_iff.1 Z).1;rw[He,f]at R;have Q:(cellsG us)[j]? =α u:=by
    have e3:512-T.fs.length=m\/us.length=m:=by omega
    rw[<-Z];by_cases q:512-T.fs.length<=us.length
    ·rw[<-(NO us _ q).1,μ,if_pos (by omega)]
    ·rw[List.take_of_length_le (by omega)]
   have:=World.ownsRow.cells y (g:=g) (by rw[a,e.1];rfl) j u Q;exact this
 have N:=Ab z;have ab:=Ab f;have L:=Ab (show An w B (γ A T.fs.length c1) T.fs from b▸h.fly);have HB:=Ab (Nat.le_trans h.lo (Nat.le_of_lt h.blk.lt));have I:=Ab (show T.fs.length+(us.take (512-T.fs.length)).length<=1000000 by omega);have q2:=h.blk.at 2 rfl;rw[b]at q2;have HK:=Ab h.blk
 have J:Hid (α q≠(Δ A T.fs.length c1).ownBlock):=Ab fun e=>by
  rw[<-b]at e;have:=Bc h.fly e.symm;have:=h.blk.kd;omega
 have hd:IntKind.i64.wrap (512-(T.fs.length:Int))=512-(T.fs.length:Int):=by rw[Ε];omega
 have H:=Ab h;have E:=Ab k;have l:=b;have p:=Ab l;rw[a];clear h y hl z P f b l S s k a;go_enter func48,ntmps48;go_wp2_with fail
 go_region_law (first
  |(refine dy (by rfl) (.tmp 15) (.tmp 21) (by rfl) B (γ A T.fs.length c1) T.fs (us.take (512-T.fs.length)) (by rfl) (Aa L) (γ C m c2) (by rfl) (Aa N) (Aa I) (Aa HB) ?_;intro a3 c3 w3 x r;have o:=Bx (JU (Gn w _)) r (.inl rfl);have K:=Ab x;have D:=Ab o;have d:=(Aa HK).kept o (Aa J);have k2:w3.cell? ⟨q,2,β⟩=α (γ A T.fs.length c1):=(by rw[<-Aa p];exact d.at 2 rfl);have f2:=d.frz 2;have aa:=Ab d;clear x o r d)
  |fail)
 all_goals go_wp2
 all_goals (have W:=(Aa H).store2 (by rw[Aa p];exact Aa D) (Aa K) (sG (Aa E)))
 all_goals rw[θ]at W
 all_goals go_end0
 all_goals exact⟨rfl,_,W.1,W.2⟩
def gU(f:AE):∀u∈f.cells,u.oneCell'=true:=fun u a=>by
 simp only[AE.cells,List.mem_cons,List.not_mem_nil,or_false]at a;rcases a with h|h|h<;>(rw[h];rfl)
def An.cellG{n c:Nat}{fs:List AE}(h:An w B (.slice (α ⟨g,0,β⟩) n c) fs){j:Nat}{u:Α}(a:(cellsG fs)[j]? =α u):w.cell? ⟨g,j,β⟩=α u:=by
 have:=World.ownsRow.cells h (g:=g) rfl j u a;rwa[show(⟨g,0,β⟩:Addr).add j=⟨g,j,β⟩ by unfold Addr.add;split<;>simp_all]at this
def jy(w:ρ)(h:TypeId)(g o c:Nat)(e:∀j,j<3->(w.cell? ⟨g,o+j,β⟩).isSome=true)(f:∀j,j<3->w.frozen? ⟨g,o+j,β⟩=false):
  (Builtin.clear_ #[46] h #[.slice (α ⟨g,o,β⟩) 1 c]).run ε w=.ok (.tuple #[]) (w.setCells g o AE.dflt.cells):=by
 have a:=run_storeCells_cells (P:=ε) g o AE.dflt.cells 0 w (fun j b=>by rw[Β];exact e j b) (fun j b=>by rw[Β];exact f j b) (gU _);simp only[Β]at a;have d:(Builtin.zeroCells (Value.agg #[ζ η 0,ζ η 0,ν ⟨#[]⟩]).cells 1).toList=AE.dflt.cells:=by
  simp[Builtin.zeroCells,Value.cells];rfl
 simp[Builtin.clear_,run_underlying underlying46,d,a]
def pF{fs:List AE}(h:An w B (.slice (α ⟨g,0,β⟩) fs.length cap) fs){i:Nat}(x:i<fs.length):
  An ((w.drew.setCells g (i*3) (cellsG (fs.drop (i+1)))).setCells g ((fs.length-1)*3) AE.dflt.cells) B (.slice (α ⟨g,0,β⟩) (fs.length-1) cap) (fs.eraseIdx i)/\
   w.grownBy ((w.drew.setCells g (i*3) (cellsG (fs.drop (i+1)))).setCells g ((fs.length-1)*3) AE.dflt.cells) (α g):=by
 have k:w.grownBy ((w.drew.setCells g (i*3) (cellsG (fs.drop (i+1)))).setCells g ((fs.length-1)*3) AE.dflt.cells) (α g):=
  Bx (Bx (JU (Gn w _)) (GJ g _ _ w.drew) (.inl rfl)) (GJ g _ _ _) (.inl rfl)
 refine⟨?_,k⟩;rcases h.2 with⟨e,_⟩|⟨g',o,d,e,u,v,E,z,m,ht⟩
 ·cases e
 simp only[δ,ξ,Addr.mk.injEq,and_true,true_and]at e;obtain⟨rfl,rfl⟩:=e;have b:=List.length_eraseIdx_of_lt x;obtain⟨c1,p,r,s⟩:=GK g 99 (cellsG (fs.drop (i+1))) (i*3) w.drew d v;obtain⟨c2,A,C,D⟩:=GK g 99 AE.dflt.cells ((fs.length-1)*3) _ c1 p;refine⟨by rw[He],.inr ⟨g,cap,c2,by rw[b],u,A,by omega,z,by rw[C,r,m],?_⟩⟩;have a:(cellsG (fs.drop (i+1))).length=(fs.length-(i+1))*3:=by rw[He,List.length_drop]
 have f:cellsG (fs.eraseIdx i)=(cellsG fs).take (i*3)++cellsG (fs.drop (i+1)):=by
  rw[List.eraseIdx_eq_take_drop_succ,NK,(NO fs i (by omega)).1]
 have c:((cellsG fs).take (i*3)).length=i*3:=by rw[θ,He];omega
 rw[f,b];apply υ;intro j;by_cases y:j<(fs.length-1)*3
 ·rw[μ,if_pos y,Array.getElem?_toList,D j (by omega),if_neg (by omega),s j (by omega),a]
  by_cases l:j<i*3
  ·rw[if_neg (by omega),List.getElem?_append_left (by omega),μ,if_pos l,<-ht,μ,if_pos (by omega),Array.getElem?_toList]
  ·rw[if_pos (by omega),List.getElem?_append_right (by omega),c]
 ·rw[ο (by rw[θ];omega),ο (by rw[κ,c,a];omega)]
def pE(B g cap i:Nat)(fs:List AE)(w:ρ)(h:An w B (.slice (α ⟨g,0,β⟩) fs.length cap) fs)(W:i<fs.length)(hl:fs.length<=1048576):
  Calls ε 80 #[.slice (α ⟨g,0,β⟩) fs.length cap,ζ η (i:Int),ζ η ((i:Int)+1)] w fun e w'=>e=.returned (.slice (α ⟨g,0,β⟩) (fs.length-1) cap)/\An w' B (.slice (α ⟨g,0,β⟩) (fs.length-1) cap) (fs.eraseIdx i)/\w.grownBy w' (α g):=by
 obtain⟨i0,z,D,E,H⟩:=info_parts MD;have K:=Ab (pF h W);rcases h.2 with⟨e,_⟩|⟨g',L,k,e,S,s,hn,Q,C,ht⟩
 ·cases e
 simp only[δ,ξ,Addr.mk.injEq,and_true,true_and]at e;obtain⟨rfl,rfl⟩:=e;have Q:cap<=9223372036854775807:=by simpa [maxLen]using Q
 obtain⟨news,a⟩:∃news,news=cellsG (fs.drop (i+1)):=⟨_,rfl⟩;have b:news.length=(fs.length-(i+1))*3:=by rw[a,He,List.length_drop]
 have m:∀t,t<cap*3->(w.cell? ⟨g,t,β⟩).isSome=true/\w.frozen? ⟨g,t,β⟩=false:=fun t o=>by
  refine⟨?_,by simp[ω,s]⟩;rw[cell_of_row w g _ _ _ _ s,Array.getElem?_eq_getElem (by omega)];rfl
 have f:∀t u,news[t]? =α u->w.cell? ⟨g,(i+1)*3+t,β⟩=α u:=fun t u l=>by
  refine h.cellG ?_;rw[a,<-(NO fs (i+1) (by omega)).2,List.getElem?_drop]at l;exact l
 obtain⟨A,hA,p⟩:∃A:Addr,(if cap=i+1 then α (⟨g,0,β⟩:Addr)else α ⟨g,(i+1)*3,β⟩)=α A/\Hid (∀t u,news[t]? =α u->w.drew.cell? (A.add t)=α u):=by
  by_cases O:cap=i+1
  ·refine⟨⟨g,0,β⟩,by simp[O],fun t u l=>?_⟩
   have R:news.length=0:=by rw[b];omega
   rw[List.length_eq_zero_iff.1 R]at l;simp at l
  ·refine⟨⟨g,(i+1)*3,β⟩,by simp[O],fun t u l=>?_⟩
   rw[Addr.add_lit];exact f t u l
 have s1:Hid (news.length=(fs.length-(i+1))*3):=b;have s2:Hid (∀u∈news,u.oneCell'=true):=by rw[a];exact Oh _
 have s3:Hid (∀t,t<news.length->(w.drew.cell? ⟨g,0+i*3+t,β⟩).isSome=true/\w.drew.frozen? ⟨g,0+i*3+t,β⟩=false):=by
  intro t o;rw[b]at o;rw[Nat.zero_add];exact m _ (by omega)
 obtain⟨d,c⟩:∃d,d=w.drew.setCells g (0+i*3) news:=⟨_,rfl⟩;have y:∃c1,d.heap[g]? =α (.cells c1 99 (0,0))/\c1.size=k.size:=by
  obtain⟨c1,r,I, -⟩:=GK g 99 news (0+i*3) w.drew k s;exact⟨c1,by rw[c];exact r,I⟩
 obtain⟨c1,r,I⟩:=y
 have P:∀J,(Builtin.clear_ #[46] J #[.slice (α ⟨g,(fs.length-1)*3,β⟩) 1 (cap-(fs.length-1))]).run ε d=.ok (.tuple #[]) (d.setCells g ((fs.length-1)*3) AE.dflt.cells):=fun J=>
  jy d J g _ _ (fun j Y=>by rw[cell_of_row d g _ _ _ _ r,Array.getElem?_eq_getElem (by omega)];rfl) (fun j Y=>by simp[ω,r])
 have x:=Aa K;rw[<-a,<-Nat.zero_add (i*3),<-c]at x;have v:=Ab x;have hW:Hid (d=w.drew.setCells g (0+i*3) news):=Ab c;clear c a b m f h x K S s C ht r I c1 k D H;generalize fs.eraseIdx i=es at*;generalize fs.length=n at*;obtain⟨N,rfl⟩:∃N,n=N+1:=⟨n-1,by omega⟩;simp only[Nat.add_sub_cancel,Nat.add_sub_add_right]at*;have aa:i+(N-i)=N:=by omega
 have X:i<=cap:=by omega
 have Z:i+1<=cap:=by omega
 have ab:(0:Int)<=(i:Int)+1:=by omega
 have ac:(i:Int)+1<=(N:Int)+1:=by omega
 have ad:((i:Int)+1).toNat=i+1:=by omega
 have ae:(i:Int)<=(i:Int)+1:=by omega
 have af:((i:Int)==(i:Int)+1)=false:=by rw[beq_eq_false_iff_ne];omega
 have V:¬cap=N:=by omega
 go_enter func80,ntmps80;go_wp2_with fail;go_region_law (refine step_append_room rfl (.tmp 22) (.tmp 25) 46 rfl 99 i0 3 underlying46 z E g 0 i cap (by simp[Act.eval,Act.put]) A (N-i) (cap-(i+1)) news (by simp[Act.eval,Act.put]) s1.out p.out s2.out (by omega) s3.out ?_;rw[<-hW.out]);go_wp2;go_ret;exact⟨rfl,Aa v⟩
def ii(q B i:Nat)(T:Az)(w:ρ)(h:Aw w q B T)(v:i<T.fs.length):
  Calls ε 53 #[.pointer (α ⟨q,0,β⟩),ζ η (i:Int)] w fun e w'=>e=.returned (.tuple #[])/\∃wv,Aw w' q B ⟨T.nv,T.ns,T.now,wv,T.fs.eraseIdx i⟩/\Tu (F4 q T) w w':=by
 obtain⟨g,cap,k, -⟩:=h.fly.at (show 0<T.fs.length by omega);have o:=h.few.2;have x:=h.blk.at 2 rfl;have a:=h.fly;rw[k]at x a;have r:=Ab (pE B g cap i T.fs w a v (by omega))
 have s:=Ab (show∀w1,w.grownBy w1 (α g)->BkA 89 w1 q [T.nv,ζ η T.now,T.wv] from fun w1 f=>h.blk.kept f fun e=>by
  have:=Bc h.fly (j:=q) (by rw[k];exact e.symm);have:=h.blk.kd;omega)
 have H:=Ab h;have u:=Ab k;have y:IntKind.i64.wrap ((i:Int)+1)=(i:Int)+1:=by rw[Ε];omega
 clear h a k;go_enter func53,ntmps53
 go_wp2_with (first
  |(go_at_call 80;refine(Aa r).mono ?_;rintro e w1 ⟨rfl,d,b⟩;have c:=Aa s w1 b;have z:=c.at 2 rfl;have f2:=c.frz 2;have m:=Ab d;have l:=Ab b;clear d b c)
  |fail)
 have f:=Aa l;rw[show(α g:Option Nat)=T.wv.ownBlock from by rw[Aa u];rfl]at f;have p:=(Aa H).store2 f (Aa m) (by rw[List.length_eraseIdx];split<;>omega);go_end0;exact⟨rfl,_,p.1,p.2⟩
def cD{b:Ap}{s:ByteArray}{now:Int}{en:Nat}(h:GZ n s now en b):b.t<=n.t+1:=by
 obtain⟨kd,fr,ic,q,c,⟨_,a⟩|⟨_,N,rl,dc,a,_⟩⟩:=h
 ·subst a;exact π _
 ·subst a;exact π _
def Dm:List Α:=[ζ η 0,ζ η 0,ζ η 0,ζ η 0,ζ η 0,.bool false,ν ⟨#[]⟩]
def DC(T:Az)(id:Int):List Α:=if 0<=id then match T.ns[id.toNat]? with
 |some x=>Gz x.n T.now
 |none=>Dm else Dm
def Aw.cell(h:Aw w q B T){x:Bg}(b:T.ns[i]? =α x):∃g c,T.nv=.slice (α ⟨g,0,β⟩) T.ns.length c/\w.cell? ⟨g,i,β⟩=α (.pointer (α ⟨x.g,0,β⟩)):=by
 have m:=(List.getElem?_eq_some_iff.1 b).1;have a:=h.own;rcases h.own.2 with⟨e,j⟩|⟨g,cap,d,e,k,l,p,o,f,ht⟩
 ·omega
 ·rw[e]at a
  refine⟨g,cap,e,?_⟩;rw[a.cellAt i (by omega)];simp[Ev,b]
def iP(n:Ap)(now:Int):∃a b c d e f s,Gz n now=[ζ η a,ζ η b,ζ η c,ζ η d,ζ η e,.bool f,ν s]:=⟨_,_,_,_,_,_,_,rfl⟩
def KF(q B:Nat)(T:Az)(id:Int)(w:ρ)(h:Aw w q B T)(ht:Tab w):Calls ε 14 #[.pointer (α ⟨q,0,β⟩),ζ η id] w fun e w'=>e=.returned (.agg (DC T id).toArray)/\Below w.heap.size w w':=by
 have X:=Ab (AI 44 w Dm);have r:=Ab (As w (.cells Dm.toArray 44));have H:=Ab (Mh q B T id _ (h.below (As w (.cells Dm.toArray 44))));by_cases m:0<=id/\id<T.ns.length
 ·obtain⟨i,rfl⟩:∃i:Nat,id=(i:Int):=⟨id.toNat,by omega⟩
  have N:i<T.ns.length:=by omega
  have C:T.ns[i]? =α T.ns[i]:=ι N;obtain⟨x,D⟩:∃x,T.ns[i]=x:=⟨_,rfl⟩;rw[D]at C;obtain⟨g,c,V,y⟩:=h.cell C;have z:DC T (i:Int)=Gz x.n T.now:=by unfold DC;rw[if_pos (by omega),show((i:Int)).toNat=i from by omega,C]
  rw[z];have c0:=h.blk.at 0 rfl;rw[V]at c0;have c1:=h.blk.at 1 rfl;have f:=As w (.cells Dm.toArray 44);have Y:=(f.cell (U w _ c0)).trans c0;have Z:=(f.cell (U w _ c1)).trans c1;have dc:=(f.cell (U w _ y)).trans y;have P:=Ab (fun wx (Q:Below w.heap.size w wx)=>nC x.g B x.n T.now wx ((h.each i x C).below Q) (ht.below Q));have j:=Ab (And.intro c0 (And.intro y c1));have p:=Ab (And.intro (Nat.ne_of_lt (U w _ c0)) (Nat.ne_of_lt (U w _ y)));have I:=Ab m;obtain⟨r0,r1,r2,r3,r4,r5,r6,A⟩:=iP x.n T.now;rw[A]at P⊢;have R:(i:Int)<(T.ns.length:Int):=by omega
  clear h ht C D V y c0 c1 z f m A;simp only[Dm]at X r H Y Z dc;go_enter func14,ntmps14
  go_wp2_with (first
   |(go_at_call 30;refine(Aa H).mono ?_;rintro e w1 ⟨⟨rfl, -⟩|⟨rfl,O⟩,l⟩;(rotate_left;exact absurd (Aa I) O);obtain rfl:=l.symm;clear l)
   |fail)
  refine wp_region_held_drew (S:=fun w'=>w'.cell? ⟨q,0,β⟩=α (.slice (α ⟨g,0,β⟩) T.ns.length c)/\w'.cell? ⟨g,i,β⟩=α (.pointer (α ⟨x.g,0,β⟩))/\w'.cell? ⟨q,1,β⟩=α (ζ η T.now)) (by kernel_rfl) ?_ (fun k=>?_)
  ·go_keep
  refine tkHh (i:=0) (v:=?_) rfl (fun _ _ _ h=>h) (σ ⟨by rfl,?f0⟩) (by assumption) ?_
  case f0=>(intro w a;(try dsimp only at a);go_simp;try with_reducible rfl)
  refine tkHh (i:=1) (v:=?_) rfl (fun _ _ _ h=>h) (σ ⟨by rfl,?f1⟩) (by assumption) ?_
  case f1=>(intro w a;(try dsimp only at a);go_simp;try with_reducible rfl)
  refine tkHh (i:=2) (v:=?_) rfl (fun _ _ _ h=>h) (σ ⟨by rfl,?f2⟩) (by assumption) ?_
  case f2=>(intro w a;(try dsimp only at a);go_simp;try with_reducible rfl)
  refine tkHh (i:=3) (v:=?_) rfl (fun _ _ _ h=>h) (σ ⟨by rfl,?f3⟩) (by assumption) ?_
  case f3=>(intro w a;(try dsimp only at a);go_simp;try with_reducible rfl)
  refine tkHh (i:=4) (v:=?_) rfl (fun _ _ _ h=>h) (σ ⟨by rfl,?f4⟩) (by assumption) ?_
  case f4=>(intro w a;(try dsimp only at a);go_simp;try with_reducible rfl)
  refine tkHh (i:=5) (v:=?_) rfl (fun _ _ _ h=>h) (σ ⟨by rfl,?f5⟩) (by assumption) ?_
  case f5=>(intro w a;(try dsimp only at a);go_simp;try with_reducible rfl)
  refine tkHh (i:=6) (v:=?_) rfl (fun _ _ _ h=>h) (σ ⟨by rfl,?f6⟩) (by assumption) ?_
  case f6=>(intro w a;(try dsimp only at a);go_simp;try with_reducible rfl)
  refine tkHh (i:=7) (v:=?_) rfl (fun _ _ _ h=>h) (σ ⟨by rfl,?f7⟩) (by assumption) ?_
  case f7=>(intro w a;(try dsimp only at a);go_simp;try with_reducible rfl)
  refine tkHh (i:=8) (v:=?_) rfl (fun _ _ _ h=>h) (σ ⟨by rfl,?f8⟩) (by assumption) ?_
  case f8=>(intro w a;(try dsimp only at a);go_simp;try with_reducible rfl)
  refine tkHh (i:=9) (v:=?_) rfl (fun _ _ _ h=>h) (σ ⟨by rfl,?f9⟩) (by assumption) ?_
  case f9=>(intro w a;(try dsimp only at a);go_simp;try with_reducible rfl)
  refine tkHh (i:=10) (v:=?_) rfl (fun _ _ _ h=>h) (σ ⟨by rfl,?f10⟩) (by assumption) ?_
  case f10=>(intro w a;(try dsimp only at a);go_simp;try with_reducible rfl)
  refine wpAnyH_ready (rs:=[11]) (by kernel_rfl) (by simp) ?_;refine AllReadyH.cons rfl (fun K s=>?_) AllReadyH.nil;go_simp;refine(Aa P _ ((Aa r).trans (Below.refl _ _).drew)).mono ?_;rintro e w2 ⟨rfl,u⟩;have b:Below w.heap.size w w2:=(Aa r).trans ((Below.refl _ _).drew.trans (u.mono (Aa r).size));have W:=(Aa X).below ((Below.refl _ _).drew.trans u);refine s.out _ _ ?_ (fun k=>?_)
  ·exact⟨b.cell (U w _ (Aa j).1)|>.trans (Aa j).1,b.cell (U w _ (Aa j).2.1)|>.trans (Aa j).2.1,b.cell (U w _ (Aa j).2.2)|>.trans (Aa j).2.2⟩
  clear s K;refine wpAnyH_ready (rs:=[12]) (by kernel_rfl) (by simp) ?_;refine AllReadyH.cons rfl (fun K s=>?_) AllReadyH.nil;refine Oa rfl 44 44 JQ (.tmp 4) (.tmp 25) rfl w.heap.size 0 _ [ζ η r0,ζ η r1,ζ η r2,ζ η r3,ζ η r4,.bool r5,ν r6] rfl rfl W rfl (show 0+7<=7 by decide) (by simp[Value.oneCell']) fun w4 o d=>?_;refine s.out _ _ ?_ (fun k=>?_)
  ·exact⟨d.cell (b.cell (U w _ (Aa j).1)|>.trans (Aa j).1) (Aa p).1,d.cell (b.cell (U w _ (Aa j).2.1)|>.trans (Aa j).2.1) (Aa p).2,d.cell (b.cell (U w _ (Aa j).2.2)|>.trans (Aa j).2.2) (Aa p).1⟩
  clear s K;refine wpAnyH_done (by kernel_rfl) ?_ _;go_wp2;exact bodyPost_ret (RI rfl o rfl) rfl ⟨rfl,GY b d (π _)⟩
 ·have z:DC T id=Dm:=by
   unfold DC;split
   ·rw[ο (by omega)]
   ·rfl
  rw[z];have I:=Ab m;clear h ht z m;simp only[Dm]at X r H⊢;go_enter func14,ntmps14
  go_wp2_with (first
   |(go_at_call 30;refine(Aa H).mono ?_;rintro e w1 ⟨⟨rfl,E⟩|⟨rfl, -⟩,l⟩;(exact absurd E (Aa I));(obtain rfl:=l.symm;clear l))
   |((with_reducible refine Ld 44 44 JQ 4 13 w.heap.size 0 _ [ζ η 0,ζ η 0,ζ η 0,ζ η 0,ζ η 0,.bool false,ν ⟨#[]⟩] ?_ ?_ (Aa X) rfl ?_ ?_ ?_);(focus rfl);(focus rfl);(focus exact(show 0+7<=7 by decide));(focus exact(by simp[Value.oneCell']));intro w4 o d;have L:=Ab o;have J:=Ab d;clear o d)
   |fail)
  exact bodyPost_ret (RI rfl (Aa L) rfl) rfl ⟨rfl,GY (Aa r) (Aa J) (π _)⟩
def AE.bear(f:AE)(s:ByteArray):AE:=⟨f.fr,f.dst,s⟩
def SD:∀(fs:List AE) (i:Nat) (s:ByteArray),i<fs.length->(cellsG fs).set (i*3+2) (ν s)=cellsG (fs.set i ((fs.getD i .dflt).bear s))
 |[],i,s,h=>by simp at h
 |p::ps,0,s,_=>rfl
 |p::ps,i+1,s,h=>by
  have:=SD ps i s (by simpa using h);show(p.cells++cellsG ps).set ((i+1)*3+2) _=p.cells++cellsG (ps.set i _);rw[List.set_append_right _ _ (by show 3<=_;omega),show(i+1)*3+2-p.cells.length=i*3+2 from by show(i+1)*3+2-3=_;omega,this];rfl
def An.setS{fs:List AE}(h:An w B (.slice (α ⟨g,0,β⟩) fs.length cap) fs){i:Nat}(a:i<fs.length)(s:ByteArray):
  An (w.setCell ⟨g,i*3+2,β⟩ (ν s)) B (.slice (α ⟨g,0,β⟩) fs.length cap) (fs.set i ((fs.getD i .dflt).bear s)):=by
 have b:w.ownsRow B 99 3 (.slice (α ⟨g,0,β⟩) fs.length cap) fs.length (cellsG fs):=h;have:=(b.stored (i*3+2) (ν s)).1;rw[SD fs i s a]at this;show World.ownsRow _ B 99 3 _ (fs.set i _).length _;rw[ψ];exact this
def oE{fs:List AE}(a:i<fs.length):fs.set i ((fs.getD i .dflt).bear (fs.getD i .dflt).s)=fs:=by
 apply υ;intro j;rw[φ];split
 ·rename_i e
  subst e;rw[τ,ι a];rfl
 ·rfl
def An.frz{fs:List AE}(h:An w B (.slice (α ⟨g,0,β⟩) fs.length cap) fs)(j:Nat):w.frozen? ⟨g,j,β⟩=false:=by
 rcases h.2 with⟨e,_⟩|⟨g',a,b,e,f,c,l,k,d,ht⟩
 ·cases e
 ·simp only[δ,ξ,Addr.mk.injEq,and_true,true_and]at e
  obtain⟨rfl,rfl⟩:=e;simp[ω,c]
def fy(B:Nat)(v:Α)(fs:List AE)(w:ρ)(h:An w B v fs)(I:fs.length<=1048576):
  Calls ε 32 #[v] w fun e w'=> ∃v',e=.returned v'/\An w' w.heap.size v' fs/\Below w.heap.size w w':=by
 rcases h.2 with⟨rfl,u⟩|⟨g,c,r,rfl,x,y,D,C,f,ht⟩
 ·have d:=fun wx=>Lib.run_eql_slice_nil (P:=ε) wx 46 99 none 0 0 0 0 underlying46
  have s:fs=[]:=ς u;subst s;go_enter func32,ntmps32;go_wp2;go_ret;exact⟨_,rfl,An.nil _ _,Below.refl _ _⟩
 ·have d:=fun wx=>Lib.run_eql_slice_nil (P:=ε) wx 46 99 (α ⟨g,0,β⟩) fs.length c 0 0 underlying46
  obtain⟨E,z,j,l,m⟩:=info_parts MD;have H:=Ab h;clear x y C f ht h;go_enter func32,ntmps32;go_wp2_with (first|(at_builtin;refine wpList_append_own _ rfl (.tmp 5) (.tmp 6) 46 rfl w.heap.size 99 E _ 3 32 underlying46 z j l m rfl (by decide) _ _ _ rfl (World.ownsRow_lit _ #[] 0 (π _) (by decide) rfl) ⟨g,0,β⟩ fs.length c (cellsG fs) rfl (He _) ?c1 (Oh _) ?c3 ?c4 ?c5 ?_))
  case c1=>exact World.ownsRow.cells ((Aa H).below (As w (.cells #[] 99))) (g:=g) rfl
  case c3=>unfold maxLen;omega
  case c4=>omega
  case c5=>simp
  intro v' w1 b a _;have o:=Ab (show Below w.heap.size w w1 from((Below.refl _ _).alloc (π _) _).grown a (by simp) (fun k A=>by simp[Value.ownBlock]at A;omega));have p:=Ab (show An w1 w.heap.size v' fs from by show w1.ownsRow _ _ _ _ fs.length _;simpa using b);clear b a;go_wp2;go_ret;exact⟨_,rfl,Aa p,Aa o⟩
def nH(q B:Nat)(T:Az)(w:ρ)(h:Aw w q B T)(L:∀f∈T.fs,f.s.size<=1048576):Calls ε 15 #[.pointer (α ⟨q,0,β⟩)] w fun e w'=> ∃v,e=.returned v/\An w' w.heap.size v T.fs/\Below w.heap.size w w':=by
 have Y:=h.blk.at 2 rfl;have O:=Ab (fy B T.wv T.fs w h.fly (by have:=h.few.2;omega));have H:=h.few.2;have Q:=Ab L;clear h L;go_enter func15,ntmps15
 go_wp2_with (first
  |(go_at_call 32;refine(Aa O).mono ?_;rintro e w1 ⟨v,rfl,d,o⟩;obtain⟨a,c,rfl⟩:=d.len;have m:=Ab d;have l:=Ab o;clear d o)
  |fail)
 go_loopw [14] (fun i wr=> ∃k:Nat,k<=T.fs.length/\i=ζ η k/\Hid (An wr w.heap.size (γ a T.fs.length c) T.fs)/\Hid (Below w.heap.size w wr)) (fun i _=>T.fs.length-(intOf i).toNat)
 case atStart=>exact⟨0,Nat.zero_le _,rfl,m,l⟩
 case round=>
  obtain⟨k,W,rfl,z,D⟩:=hrel;clear m l;by_cases b:k<T.fs.length
  ·have K:(k:Int)<(T.fs.length:Int):=by omega
   obtain⟨g,cap,N,J⟩:=(Aa z).at (by omega);simp only[δ,true_and]at N;obtain⟨rfl,rfl⟩:=N;have c2:=(J k b).2.2;have u:(T.fs.getD k .dflt).s.size<=1048576:=Aa Q _ (by rw[τ,ι b];exact List.getElem_mem b);have A:=Ab (fun wx=>GR (T.fs.getD k .dflt).s wx u)
   have P:=Ab (fun wx (I:Below wr.heap.size wr wx)=>(show wx.cell? ⟨g,k*3+2,β⟩=α (ν (T.fs.getD k .dflt).s)/\wx.frozen? ⟨g,k*3+2,β⟩=false/\Hid (An (wx.setCell ⟨g,k*3+2,β⟩ (ν (T.fs.getD k .dflt).s)) w.heap.size (.slice (α ⟨g,0,β⟩) T.fs.length c) T.fs)/\Hid (Below w.heap.size w (wx.setCell ⟨g,k*3+2,β⟩ (ν (T.fs.getD k .dflt).s))) from by
    have y:=(Aa z).below I;obtain⟨g',E,x,C⟩:=y.at (by omega);simp only[δ,ξ,Addr.mk.injEq,and_true,true_and]at x;obtain⟨rfl,rfl⟩:=x;refine⟨(C k b).2.2,y.frz _,?_,?_⟩
    ·have:=y.setS b (T.fs.getD k .dflt).s
     rw[oE b]at this;exact this
    ·have V:w.heap.size<=g:=(C9 y (j:=g) rfl).1
     exact(Ad (Aa D) I).setCell (p:=⟨g,k*3+2,β⟩) V _))
   clear J u;generalize (T.fs.getD k .dflt).s=s at*
   go_wp2_with (first
    |(go_at_call 33;refine(Aa A _).mono ?_;rintro e w2 ⟨rfl,r⟩;obtain⟨X,f2,S,R⟩:=Aa P w2 r;clear r)
    |fail)
   go_roundw
   case rel=>exact⟨k+1,b,by go_num,S,R⟩
   case measure=>simp[intOf];omega
  ·obtain rfl:k=T.fs.length:=by omega
   go_wp2;go_ret;exact⟨_,rfl,Aa z,Aa D⟩
end Go.Proofs.YtfpmnekaockodaaGreatDoor
