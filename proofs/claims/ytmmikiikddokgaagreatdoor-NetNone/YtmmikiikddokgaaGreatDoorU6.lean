/-
  Laws that the proof stands on.
-/
import Derived.Test.YtmmikiikddokgaaGreatDoorU5
import Derived.Deep.LoopGhost
namespace Go.Proofs.YtmmikiikddokgaaGreatDoor
open Go.RowKit Go.Sort
set_option linter.unusedVariables false
set_option linter.unusedSimpArgs false
set_option maxRecDepth 4000
set_option maxHeartbeats 8000000
variable {k:Int}{bs:List ByteArray}{kn:List Nat}{rs:List RV}{B n m:Nat}{S:Nat->Bool}{cs:Nat->List Nat}{w:World}
theorem Ar.at'{a:Option Addr}{c:Nat}{ss:List ByteArray}(h:Ar w B (.slice a n c) ss):n=ss.length/\As w a ss.length ss:=by
 obtain⟨d,c1,e,b⟩:=h.texts;simp only[Value.slice.injEq]at e;obtain⟨rfl,rfl,rfl⟩:=e;exact⟨rfl,b⟩
theorem Wb(B:Nat)(v:PV)(kn:List Nat)(bs:List ByteArray)(rs:List RV)(p:Nat)(w:World)(h:A1 w B v kn bs)(A:Aj w v.a v.n rs)(I:Af rs)(hp:p<v.n)(R:v.n<=1048576)(H:shorts bs)(C:bs.length<=1048576):
  Calls Tryz.prog 307 #[.pointer (some ⟨v.g,0,none⟩),.int .i64 (p:Int)] w fun e w'=>e=.returned (.string (Do bs (rs.getD p .dflt).xs (rs.getD p .dflt).s))/\Below w.heap.size w w':=by
 obtain⟨g,a,n,c,kg,kc,bg,bc,bm⟩:=v;simp only at*;obtain⟨b,off,rfl,o⟩:=A.at hp;obtain⟨L,N⟩:=o p hp;have f:=A.2.1 p hp;have P:=I p;obtain⟨Y,Z,Q,x3⟩:=h.cells;have l:=h.blocks.at'.2;have q:=h.lt;have O:(p:Int)<(n:Int):=by omega
 generalize rs.getD p .dflt=r at*;have d:Below w.heap.size w (w.alloc (.cells #[.slice r.a r.n r.c,.string r.s] 73)):=(Below.refl _ _).alloc (Nat.le_refl _) _;have E:=GH w (.slice r.a r.n r.c) (.string r.s);have u:(st (Bp bs r.xs bs.length)).size<=1048576:=by rw[WQ (IU _ _ _)];exact PH bs r.xs H _
 have T:=cell_regrown E.1;have V:=cell_regrown E.2;have X:=cell_regrown ((d.cell (p:=⟨g,2,none⟩) q).trans Q);have z:=Cq (W:=w.alloc (.cells #[.slice r.a r.n r.c,.string r.s] 73)) (fun w' i=>QL (some ⟨bg,0,none⟩) bs.length bc bs r.a r.n r.c r.xs w' ((l.below d).below i) H C ((f.below d).below i) (by omega));have j:=Cq (W:=w.alloc (.cells #[.slice r.a r.n r.c,.string r.s] 73)) (fun w' i=>Zo r.s (st (Bp bs r.xs bs.length)) w' (by omega) u);have B1:=Ab d;clear o A I f l E u d h q;go_enter Tryz.func307,Tryz.ntmps307;go_wp2_with fail;refine wp_region_quiet_below (by kernel_rfl) (by kernel_rfl) ?_
 repeat (with_reducible refine wpQuiet_step (fun K y=>?_);go_simp;first|(with_reducible refine y _ ?_;clear y K)|(apply Exists.intro;apply And.intro;(intro _;first|(go_at_call 198;exact z _ _)|(go_at_call 315;exact j _ _));with_reducible refine y _ ?_;clear y K))
 refine wpQuiet_nil ?_;intro _ D;obtain⟨⟨J,G⟩,x⟩:=D;subst x;go_wp2;go_ret;exact⟨rfl,Ad (Aa B1) (below_regrown _ J G)⟩
def toldTo(k:Int)(kn:List Nat)(bs:List ByteArray)(m:Nat):List (List Nat×ByteArray):=((List.range m).filter fun b=>Ai kn b).map fun(b:Nat)=>(unitL k (b:Int),bs.getD b ByteArray.empty)
theorem gZ(h:Ai kn m=true):toldTo k kn bs (m+1)=toldTo k kn bs m++[(unitL k (m:Int),bs.getD m ByteArray.empty)]:=by
 unfold toldTo;rw[List.range_succ,List.filter_append,List.map_append];simp only[List.filter_cons,List.filter_nil,h,if_true,List.map_cons,List.map_nil]
theorem nG(h:Ai kn m=false):toldTo k kn bs (m+1)=toldTo k kn bs m:=by
 unfold toldTo;rw[List.range_succ,List.filter_append,List.map_append];simp only[List.filter_cons,List.filter_nil,h,Bool.false_eq_true,if_false,List.map_nil,List.append_nil]
theorem SV(k:Int)(kn:List Nat)(bs:List ByteArray)(m:Nat):(toldTo k kn bs m).length<=m:=by
 unfold toldTo;rw[List.length_map];have:=List.length_filter_le (fun b=>Ai kn b) (List.range m);simpa using this
theorem qW(B:Nat)(v:PV)(kn:List Nat)(bs:List ByteArray)(w:World)(h:A1 w B v kn bs)(ah:bs.length<=1048576)(ad:kn.length<=1048576):
  Calls Tryz.prog 280 #[.pointer (some ⟨v.g,0,none⟩)] w fun e w'=> ∃f l c1 q,e=.returned (.slice f l c1)/\Em w w' f l c1 (toldTo (bs.length:Int) kn bs bs.length) q:=by
 obtain⟨g,a,n,c,kg,kc,bg,bc,bm⟩:=v;simp only at*;obtain⟨W,X,R,Y⟩:=h.cells;simp only at W X R Y;have H:=Ab h;clear h;go_enter Tryz.func280,Tryz.ntmps280;go_wp2;go_loopw [3,11] (fun o i wr=> ∃k:Nat,∃f:Option Addr,∃l c1:Nat,∃q:List RV,k<=bs.length/\i=.int .i64 k/\o=.slice f l c1/\Hid (Em w wr f l c1 (toldTo (bs.length:Int) kn bs k) q)) (fun _ i _=>bs.length-(intOf i).toNat)
 case atStart=>exact⟨0,none,0,0,[],Nat.zero_le _,rfl,rfl,Ab (Em.nil w)⟩
 case round=>
  obtain⟨k,f,l,c1,q,hk,rfl,rfl,z⟩:=hrel;clear W X R Y;by_cases N:k<bs.length
  ·have E:=(Aa H).below (Aa z).2.2.2.2
   obtain⟨W,X,R,Y⟩:=E.cells;simp only at W X R Y;obtain⟨b9,ag,e9,J⟩:=(E.blocks.at'.2).at N;simp only[Option.some.injEq,Addr.mk.injEq,and_true]at e9;obtain⟨rfl,rfl⟩:=e9;have ab:=J k N;rw[Nat.zero_add]at ab;have af:(k:Int)<(bs.length:Int):=by omega
   have d:=Ab (Vy (some ⟨kg,0,none⟩) kn.length kc kn k wr E.known.at'.2 ad (by omega));have x:=Ab (fun h=>gZ (k:=(bs.length:Int)) (kn:=kn) (bs:=bs) (m:=k) h);have u:=Ab (fun h=>nG (k:=(bs.length:Int)) (kn:=kn) (bs:=bs) (m:=k) h);have L:=E.lt;simp only at L;have ae:q.length<=1048576:=by
    have:=congrArg List.length (Aa z).2.2.2.1;rw[List.length_map]at this;have:=SV (bs.length:Int) kn bs k;omega
   clear E J;generalize bs.getD k ByteArray.empty=t at*;cases j:Ai kn k
   ·rw[j]at d
    have T:=Ab (Aa u j);clear x u;go_wp2_with (go_at_call 238;refine(Aa d).mono ?_;rintro e w1 ⟨rfl,b⟩;have r:=Ab b;clear b);go_roundw
    case rel=>exact⟨k+1,f,l,c1,q,by omega,by go_num,rfl,Ab (by rw[Aa T];exact(Aa z).below (Aa r))⟩
    case measure=>simp[intOf];omega
   ·rw[j]at d
    have T:=Ab (Aa x j);have C:=Ab (fun w1=>Wg (bs.length:Int) (k:Int) w1 (by omega));clear x u;obtain⟨V,Q⟩:∃V,V=unitL (bs.length:Int) (k:Int):=⟨_,rfl⟩;rw[<-Q]at T C;clear Q;go_wp2_with (first|(go_at_call 238;refine(Aa d).mono ?_;rintro e w1 ⟨rfl,b⟩;have z2:=(b.cell (p:=⟨g,2,none⟩) L).trans R;have r:=Ab b;clear b)|(go_at_call 258;refine(Aa C _).mono ?_;rintro e w2 ⟨v2,rfl,y,G⟩;obtain⟨a2,c2,rfl,P⟩:=y.row;have A:=Ab y;have aa:=Ab P;have s:=Ab ((Aa z).below (Ad (Aa r) G));clear y G P)|(at_builtin;refine RC rfl (.tmp 22) (.tmp 32) rfl w.heap.size (.slice f l c1) q ⟨a2,V.length,c2,V,t⟩ rfl rfl (Aa s).1 (Aa s).2.2.2.2.size ae ?_;intro v3 w3 O K I;obtain⟨a3,m3,c3,rfl,D⟩:=(Aa s).push (Ae.one (Aa aa) (Aa A).cap) (CA.own (Aa A)) O K I;have Z:=Ab D;clear O K I D));go_roundw
    case rel=>exact⟨k+1,a3,m3,c3,_,by omega,by go_num,rfl,Ab (by rw[Aa T];exact Aa Z)⟩
    case measure=>simp[intOf];omega
  ·have ac:k=bs.length:=by omega
   subst ac;go_wp2;go_ret;exact⟨f,l,c1,q,rfl,Aa z⟩
def Fl(S:Nat->Bool)(cs:Nat->List Nat)(bs:List ByteArray)(rs:List RV)(m:Nat):List (List Nat×ByteArray):=((List.range m).filter fun p=>S p).map fun(p:Nat)=>(cs p,Do bs (rs.getD p .dflt).xs (rs.getD p .dflt).s)
theorem gn(h:S m=true):Fl S cs bs rs (m+1)=Fl S cs bs rs m++[(cs m,Do bs (rs.getD m .dflt).xs (rs.getD m .dflt).s)]:=by
 unfold Fl;rw[List.range_succ,List.filter_append,List.map_append];simp only[List.filter_cons,List.filter_nil,h,if_true,List.map_cons,List.map_nil]
theorem mK(h:S m=false):Fl S cs bs rs (m+1)=Fl S cs bs rs m:=by
 unfold Fl;rw[List.range_succ,List.filter_append,List.map_append];simp only[List.filter_cons,List.filter_nil,h,Bool.false_eq_true,if_false,List.map_nil,List.append_nil]
theorem gl(S:Nat->Bool)(cs:Nat->List Nat)(bs:List ByteArray)(rs:List RV)(m:Nat):(Fl S cs bs rs m).length<=m:=by
 unfold Fl;rw[List.length_map];have:=List.length_filter_le (fun b=>S b) (List.range m);simpa using this
theorem qz(B:Nat)(v:PV)(sz:Nat)(S:Nat->Bool)(f:Nat->Nat×Nat)(cs:Nat->List Nat)(kn:List Nat)(bs:List ByteArray)(rs:List RV)(w:World)(h:PS w B v sz S f cs kn bs)(X:Aj w v.a v.n rs)(Z:Af rs)(hn:v.n<=1048576)(hb:shorts bs)(O:bs.length<=1048576):
  Calls Tryz.prog 281 #[.pointer (some ⟨v.g,0,none⟩)] w fun e w'=> ∃c j c1 l,e=.returned (.slice c j c1)/\Em w w' c j c1 (Fl S cs bs rs v.n) l:=by
 obtain⟨x0,x1,x2,x3⟩:=h.1.cells;have H:=Ab h;have HR:=Ab X;have HS:=Ab Z;clear h X Z;go_enter Tryz.func281,Tryz.ntmps281;go_wp2;go_loopw [3,12] (fun o i wr=> ∃k:Nat,∃c:Option Addr,∃j c1:Nat,∃l:List RV,k<=v.n/\i=.int .i64 k/\o=.slice c j c1/\Hid (Em w wr c j c1 (Fl S cs bs rs k) l)) (fun _ i _=>v.n-(intOf i).toNat)
 case atStart=>exact⟨0,none,0,0,[],Nat.zero_le _,rfl,rfl,Ab (Em.nil w)⟩
 case round=>
  obtain⟨k,c,j,c1,l,hk,rfl,rfl,y⟩:=hrel;clear x0 x1 x2 x3;by_cases R:k<v.n
  ·have z:=(Aa H).below (Aa y).2.2.2.2
   obtain⟨x0,x1,x2,x3⟩:=z.1.cells;have Y:(k:Int)<(v.n:Int):=by omega
   have u:=Ab (fun h=>gn (S:=S) (cs:=cs) (bs:=bs) (rs:=rs) (m:=k) h);have q:=Ab (fun h=>mK (S:=S) (cs:=cs) (bs:=bs) (rs:=rs) (m:=k) h);have T:l.length<=1048576:=by
    have:=congrArg List.length (Aa y).2.2.2.1;rw[List.length_map]at this;have:=gl S cs bs rs k;omega
   obtain⟨D,L,d⟩:=z.2.1;have A:=Ab (Wb B v kn bs rs k wr z.1 ((Aa HR).below (Aa y).2.2.2.2) (Aa HS) R hn hb O);cases b:S k
   ·obtain⟨az,nz,cz,Q⟩:=fo L d b (by omega)
    have K:=Ab (Aa q b);clear u q z L d A;go_wp2;go_roundw
    case rel=>exact⟨k+1,c,j,c1,l,by omega,by go_num,rfl,Ab (by rw[Aa K];exact Aa y)⟩
    case measure=>simp[intOf];omega
   ·have Q:=fG L d b (by omega)
    have K:=Ab (Aa u b);have W:=Ab (z.2.2.1.own k b).1;clear u q z L d;generalize Do bs (rs.getD k .dflt).xs (rs.getD k .dflt).s=t at*;generalize (f k).1=gk at*;generalize (f k).2=ck at*;obtain⟨V,J⟩:∃V,V=cs k:=⟨_,rfl⟩;rw[<-J]at K W;clear J;go_wp2_with (first|(go_at_call 307;refine(Aa A).mono ?_;rintro e w2 ⟨rfl,x⟩;have r:=Ab ((Aa W).below x);have p:=Ab ((Aa y).below x);clear x)|(at_builtin;refine RC rfl (.tmp 25) (.tmp 31) rfl w.heap.size (.slice c j c1) l ⟨some ⟨gk,0,none⟩,sz,ck,V,t⟩ rfl rfl (Aa p).1 (Aa p).2.2.2.2.size T ?_;intro v3 w3 I G E;obtain⟨a3,m3,c3,rfl,C⟩:=(Aa p).push (Ae.one (by have:=(Aa r).at';exact this.1▸this.2) (Aa r).cap) (CA.own (Aa r)) I G E;have N:=Ab C;clear I G E C));go_roundw
    case rel=>exact⟨k+1,a3,m3,c3,_,by omega,by go_num,rfl,Ab (by rw[Aa K];exact Aa N)⟩
    case measure=>simp[intOf];omega
  ·have P:k=v.n:=by omega
   subst P;go_wp2;go_ret;exact⟨c,j,c1,l,rfl,Aa y⟩
theorem A1.gb{v:PV}(h:A1 w B v kn bs):v.g≠v.bg:=fun e=>by
 obtain⟨b,a⟩:=h.blocks.blk;have:=h.box;rw[e,a]at this;simp only[Option.some.injEq,Obj.cells.injEq]at this;exact absurd this.2.1 (by decide)
theorem PS.told{w1 w2 w3:World}{v:PV}{L:Nat}{f:Nat->Nat×Nat}{b:Nat}{t:ByteArray}(h:PS w B v L S f cs kn bs)(x:B<=w.heap.size)(i:Below w.heap.size w w1)(c:w1.grownBy w2 (some v.bg))
  (I:Ar w2 B (.slice (some ⟨v.bg,0,none⟩) bs.length v.bc) (bs.set b t)) (d:w2.grownBy w3 (some v.kg)) (r:Own w3 B (.slice (some ⟨v.kg,0,none⟩) kn.length v.kc) (Bz kn b true)):PS w3 B v L S f cs (Bz kn b true) (bs.set b t)/\Below B w w3:=by
 obtain⟨l,⟨D,u,N⟩,K,s1,T⟩:=h.below i;obtain⟨V,a⟩:=l.blocks.blk;obtain⟨ck,q⟩:=l.known.blk
 have z:v.g≠v.bg:=fun e=>by
  have:=l.box;rw[e,a]at this;simp only[Option.some.injEq,Obj.cells.injEq]at this;exact absurd this.2.1 (by decide)
 have A:v.g≠v.kg:=fun e=>by
  have:=l.box;rw[e,q]at this;simp only[Option.some.injEq,Obj.cells.injEq]at this;exact absurd this.2.1 (by decide)
 have y:v.bg≠v.kg:=fun e=>by
  rw[e,q]at a;simp only[Option.some.injEq,Obj.cells.injEq]at a;exact absurd a.2.1 (by decide)
 have G:v.bm≠v.bg:=fun e=>by
  obtain⟨W,s,J,_⟩:=u;rw[e,a]at J;cases J
 have H:v.kg≠v.bm:=Kx l.known u
 have E:∀p,S p=true->(f p).1≠v.bg:=fun p hp e=>by
  obtain⟨c2,o⟩:=(K.own p hp).1.blk;rw[e,a]at o;simp only[Option.some.injEq,Obj.cells.injEq]at o;exact absurd o.2.1 (by decide)
 have Q:=K.kept c E;have R:=Q.kept d (fun p hp=>(s1 p hp).2);have O:=(u.kept c (fun e=>G (by simpa using e))).kept d (fun e=>H (by simpa using e.symm));have P:=l.box;refine⟨⟨⟨?_,by rw[Ii];exact r,?_⟩,⟨D,O,N⟩,R,s1,T⟩,?_⟩
 ·rw[Ii,List.length_set]
  exact(d.block v.g (Nat.lt_of_lt_of_le l.lt c.size) (by simpa using A)).trans ((c.block v.g l.lt (by simpa using z)).trans P)
 ·rw[List.length_set]
  exact World.ownsRow.kept I d (.inr fun e=>y (by simpa [Value.ownBlock]using e))
 ·have B1:=i.mono x
  refine(B1.trans (CJ c (Nat.le_trans x i.size) fun j C=>by cases C;exact(World.ownsRow.lt l.blocks v.bg rfl).1)).trans (CJ d (Nat.le_trans x (Nat.le_trans i.size c.size)) fun j C=>by cases C;exact(r.lt (k:=v.kg) rfl).1)
theorem qU(B:Nat)(v:PV)(J:Nat)(S:Nat->Bool)(f:Nat->Nat×Nat)(cs:Nat->List Nat)(kn:List Nat)(bs:List ByteArray)(rs:List RV)(p b:Nat)(w:World)(ht:Tab w)(h:PS w B v J S f cs kn bs)(hB:B<=w.heap.size)(hR:Aj w v.a v.n rs)(hs:Af rs)(hn:v.n<=1048576)(hb:shorts bs)(Y:bs.length<=1048576)(hz:J<=1048576)(ab:kn.length<=1048576)
  (hp:S p=true) (hf:firstI (cs p)=(b:Int)) (W:b<bs.length) (X:b/64<kn.length):
  Calls Tryz.prog 282 #[.pointer (some ⟨v.g,0,none⟩),.int .i64 (p:Int)] w fun e w'=>e=.returned (.tuple #[])/\PS w' B v J S f cs (Bz kn b true) (bs.set b (Do bs (rs.getD p .dflt).xs (rs.getD p .dflt).s))/\Below B w w':=by
 obtain⟨x0,x1,x2,x3⟩:=h.1.cells;have ae:=(h.2.2.2.1 p hp).1;obtain⟨D,hD,x⟩:=h.2.1;have ac:=XU hD x hp (by omega);have G:=(h.2.2.1.own p hp).1;have HF:=Ab (Jp (some ⟨(f p).1,0,none⟩) J (f p).2 (cs p) w ht (by have:=G.at';exact this.1▸this.2) hz);rw[hf]at HF;have R:=Ab (fun wx (y:Below w.heap.size w wx)=>Wb B v kn bs rs p wx (h.1.below y) (hR.below y) hs ae hn hb Y);have E:=h.1.lt;have aa:=h.1.gb;have C:¬v.bg=v.g:=fun e=>aa e.symm;have H:=Ab h;generalize Do bs (rs.getD p .dflt).xs (rs.getD p .dflt).s=t at*;have r:=Ab (fun(w1 w2 w3:World) i af ad j l=>PS.told (w1:=w1) (w2:=w2) (w3:=w3) (b:=b) (t:=t) h hB i af ad j l);have ag:(b:Int)<(bs.length:Int):=by omega
 clear hD x G hR hs ht h hf;generalize (f p).1=gp at*;generalize (f p).2=cp at*;go_enter Tryz.func282,Tryz.ntmps282;go_wp2_with (go_at_call 222;refine(Aa HF).mono ?_;rintro e w9 ⟨rfl,I⟩;obtain rfl:=I.symm;clear I);go_region_held (fun w'=>w'.cell? ⟨v.g,2,none⟩=some (.slice (some ⟨v.bg,0,none⟩) bs.length v.bc)) (go_keep) (first|(go_at_call 307;refine(Aa R _ ((Below.refl _ _).drew)).mono ?_;rintro e w1 ⟨rfl,i⟩;have c:Below w.heap.size w w1:=Ad ((Below.refl w.heap.size w).drew) i;have z2:=(c.cell (p:=⟨v.g,2,none⟩) E).trans x2;have z1:=(c.cell (p:=⟨v.g,1,none⟩) E).trans x1;have o:=(Aa H).below c;obtain⟨g9,c9,e9,ah,ai,z,A⟩:=o.1.blocks.at (by omega);simp only[Value.slice.injEq,Option.some.injEq,Addr.mk.injEq,and_true,true_and]at e9;obtain⟨T,V⟩:=e9;subst T V;have y0:=z b W;have y1:=A b;have d:=Ab o;have K:=Ab c;clear o c z A i));have q1:(w1.setCell ⟨v.bg,b,none⟩ (.string t)).cell? ⟨v.g,1,none⟩=some (.slice (some ⟨v.kg,0,none⟩) kn.length v.kc):=(World.cell?_setCell_other (h:=fun h=>C (by injection h)) ..).trans z1;have O:=Ab ((Aa d).1.blocks.stored b t);have u:=Ab (BA w1 v.bg b (.string t));generalize (w1.setCell ⟨v.bg,b,none⟩ (.string t))=w2 at*
 have N:=Ab (show Own w2 B (.slice (some ⟨v.kg,0,none⟩) kn.length v.kc) kn from(Aa d).1.known.kept (Aa u) (.inr fun e=>by
  obtain⟨cb,Z⟩:=(Aa d).1.blocks.blk;obtain⟨ck,q⟩:=(Aa d).1.known.blk;simp only[Value.ownBlock,Option.some.injEq]at e;rw[e,Z]at q;simp only[Option.some.injEq,Obj.cells.injEq]at q;exact absurd q.2.1 (by decide)))
 have Q:=Ab (pF B v.kg v.kc kn b w2 (Aa N) X ab);clear z1 z2 y0 y1 x0 x1 x2 x3 ac;go_wp2_with (go_at_call 308;refine(Aa Q).mono ?_;rintro e w3 ⟨rfl,l,j⟩;have P:=Ab l;have L:=Ab j;clear l j);go_end0;exact⟨rfl,Aa r w1 w2 w3 (Aa K) (Aa u) (Aa O) (Aa L) (Aa P)⟩
def Ft(k:Int)(kn:List Nat)(r:RV):Bool:=AU k r.xs&& !decide (cnt (dropL r.xs kn)=0)&& !decide (cnt (dropL r.xs kn)=1)
def restL(k:Int)(rs:List RV)(kn:List Nat)(bs:List ByteArray):List (List Nat×ByteArray):=(rs.filter (Ft k kn)).map fun r=>(dropL r.xs kn,Do bs r.xs r.s)
def BP(k:Int)(rs:List RV)(n:Nat)(S:Nat->Bool)(cs:Nat->List Nat)(kn:List Nat):Prop:=
 (∀p,S p=true->p<n/\AU k (rs.getD p .dflt).xs=true/\dropL (cs p) kn=dropL (rs.getD p .dflt).xs kn)/\∀p,p<n->AU k (rs.getD p .dflt).xs=true->S p=false->cnt (dropL (rs.getD p .dflt).xs kn)=0
theorem BP.start(k:Int)(rs:List RV)(n:Nat)(kn:List Nat):BP k rs n (CE k rs n) (fun p=>(rs.getD p .dflt).xs) kn:=by
 refine⟨fun p hp=>?_,fun p hp b a=>?_⟩
 ·unfold CE at hp
  rw[Bool.and_eq_true,decide_eq_true_eq]at hp;exact⟨hp.1,hp.2,rfl⟩
 ·unfold CE at a
  rw[b,decide_eq_true hp]at a;cases a
theorem BP.next(h:BP k rs n S cs kn):
  (∀p,Dy S cs kn p=true->p<n/\AU k (rs.getD p .dflt).xs=true/\dropL (cs p) kn=dropL (rs.getD p .dflt).xs kn/\¬cnt (dropL (rs.getD p .dflt).xs kn)=0)/\∀p,p<n->AU k (rs.getD p .dflt).xs=true->Dy S cs kn p=false->cnt (dropL (rs.getD p .dflt).xs kn)=0:=by
 refine⟨fun p hp=>?_,fun p hp g b=>?_⟩
 ·unfold Dy at hp
  rw[Bool.and_eq_true]at hp;obtain⟨d,f,c⟩:=h.1 p hp.1;refine⟨d,f,c,fun e=>?_⟩;rw[c,e]at hp;simp at hp
 ·cases a:S p
  ·exact h.2 p hp g a
  ·unfold Dy at b
   rw[a,Bool.true_and]at b;rw[<-(h.1 p a).2.2];simpa using b
theorem BP.tell{e:List Nat}(h:BP k rs n S cs kn)(f:∀p,p<n->Ac (rs.getD p .dflt).xs)(d:∀i,Ai kn i=true->Ai e i=true):BP k rs n (Dy S cs kn) (fun p=>dropL (cs p) kn) e:=by
 obtain⟨j,l⟩:=h.next;refine⟨fun p hp=>?_,fun p hp q o=>?_⟩
 ·obtain⟨a,b,c,_⟩:=j p hp
  refine⟨a,b,?_⟩;show dropL (dropL (cs p) kn) e=_;rw[c,du _ _ _ d (f p a)]
 ·have g:=O2.1 (l p hp q o)
  refine O2.2 fun i=>?_;have:=g i;rw[G0]at this⊢;cases r:Ai (rs.getD p .dflt).xs i
  ·rfl
  ·rw[r]at this
   simp at this;rw[d i this];rfl
theorem BP.found{first:Nat}(h:BP k rs n S cs kn)(q:rs.length=n)(l:first<n)(f:S first=true/\cnt (dropL (cs first) kn)=1)(g:∀p,S p=true->cnt (dropL (cs p) kn)=1->first<=p):
  rs.find? (Cu k kn)=some (rs.getD first .dflt)/\Cu k kn (rs.getD first .dflt)=true:=by
 obtain⟨a,b,c⟩:=h.1 first f.1
 have ht:Cu k kn (rs.getD first .dflt)=true:=by
  unfold Cu;rw[b,<-c,f.2];rfl
 refine⟨Yt (by omega) ht fun j o=>?_,ht⟩;cases e:AU k (rs.getD j .dflt).xs
 ·unfold Cu;rw[e];rfl
 ·unfold Cu
  rw[e,Bool.true_and,decide_eq_false_iff_not];intro i;cases d:S j
  ·have:=h.2 j (by omega) e d;omega
  ·have:=g j d (by rw[(h.1 j d).2.2];exact i);omega
theorem BP.nomore(h:BP k rs n S cs kn)(f:rs.length=n)(c:∀p,S p=true->cnt (dropL (cs p) kn)=1->n<=p):rs.find? (Cu k kn)=none:=by
 refine Yu fun j e=>?_;cases b:AU k (rs.getD j .dflt).xs
 ·unfold Cu;rw[b];rfl
 ·unfold Cu
  rw[b,Bool.true_and,decide_eq_false_iff_not];intro d;cases a:S j
  ·have:=h.2 j (by omega) b a;omega
  ·have:=c j a (by rw[(h.1 j a).2.2];exact d);omega
theorem dB(rs:List RV)(q:RV->Bool)(g:RV->List Nat×ByteArray):((List.range rs.length).filter fun p=>q (rs.getD p .dflt)).map (fun p=>g (rs.getD p .dflt))=(rs.filter q).map g:=by
 have e:(List.range rs.length).map (fun p=>rs.getD p .dflt)=rs:=by
  apply List.ext_getElem
  ·simp
  ·intro i b a
   simp[List.getD_eq_getElem?_getD,List.getElem?_eq_getElem a]
 conv=>rhs;rw[<-e,List.filter_map,List.map_map]
 rfl
theorem BP.rest(h:BP k rs n S cs kn)(q:rs.length=n)(f:rs.find? (Cu k kn)=none)(bs:List ByteArray):Fl (Dy S cs kn) (fun p=>dropL (cs p) kn) bs rs n=restL k rs kn bs:=by
 obtain⟨g,o⟩:=h.next
 have j:∀p,p<n->Dy S cs kn p=Ft k kn (rs.getD p .dflt):=fun p hp=>by
  have e:Cu k kn (rs.getD p .dflt)=false:=by
   rw[<-Bool.not_eq_true];have:=List.find?_eq_none.1 f rs[p] (List.getElem_mem (by omega));rwa[List.getD_eq_getElem?_getD,List.getElem?_eq_getElem (by omega)]
  unfold Ft;unfold Cu at e;cases i:Dy S cs kn p
  ·cases u:AU k (rs.getD p .dflt).xs
   ·rfl
   ·rw[o p hp u i];rfl
  ·obtain⟨a,b,c,d⟩:=g p i
   rw[b,Bool.true_and]at e;rw[b,decide_eq_false d,e];rfl
 unfold Fl restL;subst q;rw[<-dB rs (Ft k kn) fun r=>(dropL r.xs kn,Do bs r.xs r.s)];have l:((List.range rs.length).filter fun p=>Dy S cs kn p)=((List.range rs.length).filter fun p=>Ft k kn (rs.getD p .dflt)):=List.filter_congr fun p hp=>j p (List.mem_range.1 hp);rw[l];apply List.map_congr_left;intro p hp;rw[List.mem_filter,List.mem_range]at hp;have:=g p (by rw[j p hp.1];exact hp.2);show(dropL (cs p) kn,_)=_;rw[this.2.2.1]
theorem Pt{a:Option Addr}(h:Aj w a n rs)(f:Af rs):Dn rs:=fun r e=>by
 obtain⟨i,d,rfl⟩:=List.mem_iff_getElem.1 e;have b:=h.2.1 i (by rw[<-h.1];exact d);have c:=f i;rw[List.getD_eq_getElem?_getD,List.getElem?_eq_getElem d]at b c;exact⟨b.2.1,c.2⟩
def Xj(w wr:World)(v:PV)(K:Nat)(rs:List RV)(f:Nat->Nat×Nat)(gk:Nat)(S:Nat->Bool)(cs:Nat->List Nat)(kn:List Nat)(bs:List ByteArray):Prop:=
 ∃j,Run (K:Int) rs j kn bs/\K=gk+j/\PS wr w.heap.size v (sizeOfK (K:Int)) S f cs kn bs/\BP (K:Int) rs v.n S cs kn/\Below w.heap.size w wr
def DF(w w':World)(k:Int)(rs:List RV)(c:Option Addr)(e c1:Nat)(a:List RV)(d:Option Addr)(f c2:Nat)(b:List RV):Prop:=
 ∃kn bs,AM k rs kn bs/\Ak w' w.heap.size (.slice c e c1) a/\Ae w' a/\a.map core=toldTo k kn bs k.toNat/\Ak w' w.heap.size (.slice d f c2) b/\Ae w' b/\b.map core=restL k rs kn bs/\Below w.heap.size w w'
theorem oy(K:Nat)(a:Option Addr)(n c:Nat)(rs:List RV)(w:World)(ht:Tab w)(D:0<sizeOfK (K:Int))(h:Aj w a n rs)(hs:Af rs)(hn:n<=1048576):
  Calls Tryz.prog 254 #[.int .i64 (K:Int),.slice a n c] w fun e w'=> ∃a1 m1 c1 W a2 m2 c2 X,e=.returned (.tuple #[.slice a1 m1 c1,.slice a2 m2 c2])/\DF w w' (K:Int) rs a1 m1 c1 W a2 m2 c2 X:=by
 have V:=DX D;have hK:K<=128:=by omega
 have bj:=DW (K:Int);have hg:=Pt h hs;have aq:∀p,p<n->Ac (rs.getD p .dflt).xs:=fun p hp=>(h.2.1 p hp).2.1;have I:=Ab (fun(j:Nat) (kn:List Nat) (bs:List ByteArray) (hr:Run (K:Int) rs j kn bs)=>Run.known D hg hr);have aw:=Ab (jB K a n c rs w D h hs hn);have G:((sizeOfK (K:Int):Nat):Int)≠0:=by omega
 have bd:(((sizeOfK (K:Int):Nat):Int)==0)=false:=by rw[beq_eq_false_iff_ne];exact G
 have HZ:=Ab (Hc (K:Int) w);have Hh:=Ab h;have Hs:=Ab hs;have HT:=Ab ht;have ad:=Ab aq;have HL:=Ab h.1;clear h hs ht aq hg V D G;generalize bh:sizeOfK (K:Int)=zz at HZ bd;clear bh;go_enter Tryz.func254,Tryz.ntmps254;go_wp2_with (first|(go_at_call 176;refine(Aa HZ).mono ?_;rintro e w9 ⟨rfl,au⟩;obtain rfl:=au.symm;clear au)|(go_at_call 278;refine(Aa aw).mono ?_;rintro e w1 ⟨g,kg,bg,f,rfl,l,r⟩;have L:=Ab l;have u:=Ab r;clear l r));go_loopg [7] K (fun gk _ wr=> ∃(S:Nat->Bool) (cs:Nat->List Nat) (kn:List Nat) (bs:List ByteArray),Hid (Xj w wr ⟨g,a,n,c,kg,sizeOfK (K:Int),bg,K,w.heap.size⟩ K rs f gk S cs kn bs))
 case atStart=>exact⟨_,_,_,_,Ab ⟨0,⟨rfl,by rw[Int.toNat_natCast]⟩,by omega,Aa L,BP.start _ _ _ _,Aa u⟩⟩
 case round=>
  obtain⟨S,cs,kn,bs,aa⟩:=hrel;obtain⟨j,z,ag,ah,E,A⟩:=Aa aa;have v:=Aa I j kn bs z;have T:=v.lenb;rw[Int.toNat_natCast]at T;have bc:=v.len;have J:=Ab (pM w.heap.size ⟨g,a,n,c,kg,sizeOfK (K:Int),bg,K,w.heap.size⟩ (sizeOfK (K:Int)) S f cs kn bs wr ah A.size (by omega) (by omega) hn);have ai:=(Aa Hh).below A;have q:=Ab E;have ac:=Ab z;have ax:=Ab A;have bi:=Ab ai;have Y:=Ab ag;have Z:=Ab v;have ak:=Ab v.shorts;clear L u ah E A z ai v aa ag;go_wp2_with fail;refine(Aa J).mono ?_;rintro e w1 ⟨first,rfl,l,r,al,s,C⟩;have b:=(Aa ax).trans r;have u:=Ab b;have ab:=Ab ((Aa Hh).below b);have a8:=Ab ((Aa HT).below b);have L:=Ab l;by_cases d:first<n
  ·obtain⟨am,ar⟩:=(Aa q).found (Aa HL) d (s d) C
   obtain⟨hv,R,bb,bf,aj,an⟩:=Kz (Aa ad first d) ar;rw[Int.toNat_natCast]at aj;have ao:Dy S cs kn first=true:=by
    unfold Dy;rw[(s d).1,(s d).2];rfl
   have H:∀i,Ai kn i=true->Ai (Bz kn (blkOf kn (rs.getD first .dflt)) true) i=true:=fun i hi=>by
    rw[Ik _ _ _ _ (by have:=DX (Aa Z).size;omega)];split
    ·rfl
    ·exact hi
   have a9:=Ab (qU w.heap.size ⟨g,a,n,c,kg,sizeOfK (K:Int),bg,K,w.heap.size⟩ (sizeOfK (K:Int)) (Dy S cs kn) f (fun p=>dropL (cs p) kn) kn bs rs first (blkOf kn (rs.getD first .dflt)) w1 (Aa a8) l b.size (Aa ab) (Aa Hs) hn (Aa ak) (by omega) (by omega) (by omega) ao
    (by show firstI (dropL (cs first) kn)=_;rw[((Aa q).1 first (s d).1).2.2];exact an) (by omega) (by have:=DX (Aa Z).size;omega))
   have a0:=Ab ((Aa q).tell (Aa ad) H);have N:=Ab (show Run (K:Int) rs (j+1) _ _ from⟨kn,bs,_,Aa ac,am,rfl,rfl⟩);have y:decide (first<n)=true:=decide_eq_true d;rw[y];clear am ar hv R bb bf aj an ao H y al s C l r b J;go_wp2_with (go_at_call 282;refine(Aa a9).mono ?_;rintro e w2 ⟨rfl,ap,x⟩;have a3:=Ab ap;have av:=Ab ((Aa u).trans x);clear ap x);go_roundg (gk-1)
   case measure=>
    have:=(Aa I (j+1) _ _ (Aa N)).le;rw[Int.toNat_natCast]at this;have:=Aa Y;omega
   case rel=>
    have h1:=(Aa I (j+1) _ _ (Aa N)).le;rw[Int.toNat_natCast]at h1;have h2:=Aa Y;exact⟨_,_,_,_,Ab ⟨j+1,Aa N,by omega,Aa a3,Aa a0,Aa av⟩⟩
  ·have ba:first=n:=by omega
   have o:=(Aa q).nomore (Aa HL) (fun p hp hc=>by have:=C p hp hc;omega);have a4:=Ab (show AM (K:Int) rs kn bs from⟨⟨j,Aa ac⟩,o⟩);have a5:=Ab ((Aa q).rest (Aa HL) o bs);have ae:=Ab (qW w.heap.size ⟨g,a,n,c,kg,sizeOfK (K:Int),bg,K,w.heap.size⟩ kn bs w1 l.1 (by omega) (by omega));have a6:=Ab (fun w2 (x:Below w1.heap.size w1 w2)=>qz w.heap.size ⟨g,a,n,c,kg,sizeOfK (K:Int),bg,K,w.heap.size⟩ (sizeOfK (K:Int)) (Dy S cs kn) f (fun p=>dropL (cs p) kn) kn bs rs w2 (l.below x) ((Aa ab).below x) (Aa Hs) hn (Aa ak) (by omega));rw[T]at ae;have y:decide (first<n)=false:=decide_eq_false d;rw[y];clear o y al s C l r b J d ba q T bc;go_wp2_with (first|(go_at_call 280;refine(Aa ae).mono ?_;rintro e w2 ⟨a1,m1,c1,W,rfl,P⟩;have ay:=Ab P;have a7:=Ab (Aa a6 w2 P.2.2.2.2);clear P)|(go_at_call 281;refine(Aa a7).mono ?_;rintro e w3 ⟨a2,m2,c2,X,rfl,af⟩;have az:=Ab af;clear af));go_ret2;have g1:=Aa ay;have g2:=Aa az;have Q:=g2.2.2.2.2;have O:=Aa u;refine⟨a1,m1,c1,W,a2,m2,c2,X,rfl,kn,bs,Aa a4,(g1.1.below Q).mono O.size,g1.2.1.below Q,?_,g2.1.mono (Nat.le_trans O.size g1.2.2.2.2.size),g2.2.1,?_,Ad (Ad O g1.2.2.2.2) Q⟩
   ·rw[Int.toNat_natCast];exact g1.2.2.2.1
   ·rw[<-Aa a5];exact g2.2.2.2.1
end Go.Proofs.YtmmikiikddokgaaGreatDoor
