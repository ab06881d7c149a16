/- Laws for the proof. -/
import Derived.Test.YtfpmnekaockodaaGreatDoorU27
namespace Go.Proofs.YtfpmnekaockodaaGreatDoor
open Go.RowKit Go.Sort
set_option linter.all false
set_option maxRecDepth 4000
set_option maxHeartbeats 8000000
variable {ov:Bool}{k z:Int}{L:List (List Nat×ByteArray)}{bs:List ByteArray}{xs kn:List Nat}{x:List Nat×ByteArray}{rs us:List RV}{m g B n:Nat}{v:Value}{w w':World}
theorem nc(w:World):(Instr.sliceAt 76 (.slice none 0 0) none (some (.int .i64 0)) none).run Tryz.prog w=.ok (.slice none 0 0) w:=by
 have:=run_sliceAt_slice (P:=Tryz.prog) w 76 (.slice none 0 0) none (some (.int .i64 0)) none JD;rw[this,run_slice_h _ _ _ _ _ JD _ _ (by omega) (by omega),Ot,Ph];simp[Result.andThen,sliced]
theorem R2(m:Nat):(Builtin.zeroCells (Value.agg #[.slice none 0 0,.string ⟨#[]⟩]).cells m).size=m*2:=by
 unfold Builtin.zeroCells;simp[Value.cells]
theorem qU(m:Nat)(w:World)(J:m<=1048576):
  Calls Tryz.prog 283 #[.slice none 0 0,.int .i64 (m:Int)] w fun e w'=> ∃q c1,e=.returned (.slice q 0 c1)/\Ak w' w.heap.size (.slice q 0 c1) []/\Below w.heap.size w w':=by
 have C:decide ((m:Int)<0)=false:=by rw[decide_eq_false_iff_not];omega
 by_cases y:m=0
 ·subst y
  go_enter Tryz.func283,Tryz.ntmps283;go_wp2;go_ret;exact⟨none,0,rfl,Ak.nil _ _,Below.refl _ _⟩
 ·have hp:decide ((0:Int)<(m:Int))=true:=by rw[decide_eq_true_iff];omega
  obtain⟨H,d,f,p,h⟩:=info_parts Ku;have r:=fun I=>Lib.run_append_nil_zeros (P:=Tryz.prog) w 76 3 I 73 H (.agg #[.slice none 0 0,.string ⟨#[]⟩]) .i64 .i64 Tryz.underlying76 Tryz.underlying3 d f m (by omega) (by omega) (by omega) (by rw[h];omega);have A:=grownCap_ge w m 0 73;have j:=grownCap_le_maxLen w m 0 73 (by unfold maxLen;omega);generalize l:grownCap w m 0 73=a at*;obtain⟨R,i⟩:∃R,R=Builtin.zeroCells (Value.agg #[.slice none 0 0,.string ⟨#[]⟩]).cells m++Builtin.zeroCells (Value.agg #[.slice none 0 0,.string ⟨#[]⟩]).cells (a-m):=⟨_,rfl⟩;rw[<-i]at r;have b:R.size=a*2:=by rw[i,Array.size_append,R2,R2];omega
  have u:Hid (Ak (w.drew.alloc (.cells R 73)) w.heap.size (.slice (some ⟨w.heap.size,0,none⟩) 0 a) []):=Ab ⟨rfl,.inr ⟨w.heap.size,a,R,rfl,Nat.le_refl _,heap_alloc_new w.drew _,Nat.zero_le _,j,b,by simp[cellsR]⟩⟩;have c:w.grownBy (w.drew.alloc (.cells R 73)) none:=⟨rfl,rfl,rfl,by simp,fun k o _=>heap_alloc_old w.drew _ o⟩;have s:=Ab (CK (B:=w.heap.size) c (Nat.le_refl _) (fun k o=>by cases o));clear c;have D:=VP w.heap.size 0 m a 0 (by omega);have E:=nc;clear d f p h i b l;go_enter Tryz.func283,Tryz.ntmps283;go_wp2_with (at_builtin;refine Lib.wpList_append_run _ rfl _ _ _ _ rfl _ _ rfl rfl _ _ (r _) ?_);go_ret;exact⟨_,_,rfl,Aa u,Aa s⟩
def bE(a b:List RV)(k:Nat):List RV:=if k=0 then []else if k=1 then a else a++b
theorem gu(g:Nat)(P:Option Addr)(p c1:Nat)(h:List RV)(R:Option Addr)(u c2:Nat)(l:List RV)(B1 B2:Nat)(w:World)(b:w.cell? ⟨g,0,none⟩=some (.slice P p c1))(d:w.cell? ⟨g,1,none⟩=some (.slice R u c2))
  (Y:Ak w B1 (.slice P p c1) h) (Z:Ak w B2 (.slice R u c2) l) (ad:p<=1000) (ae:u<=1000):
  Calls Tryz.prog 255 #[.slice (some ⟨g,0,none⟩) 2 2] w fun e w'=> ∃a3 m3 c3,e=.returned (.slice a3 m3 c3)/\Ak w' w.heap.size (.slice a3 m3 c3) (h++l)/\Below w.heap.size w w':=by
 obtain⟨Q,T,W⟩:=Y.shape;obtain⟨S,V,X⟩:=Z.shape;have ab:h.length=p:=by simp only[Value.slice.injEq]at W;exact W.2.1.symm
 have ac:l.length=u:=by simp only[Value.slice.injEq]at X;exact X.2.1.symm
 clear W X Q T S V;have H1:=Ab Y;have H2:=Ab Z;have HC:=Ab (And.intro b d);have HG:=Ab (fun wx=>qU (p+u) wx (by omega));clear Y Z;go_enter Tryz.func255,Tryz.ntmps255;go_wp2;go_loop [3,11] (fun s i=> ∃k:Nat,k<=2/\i=.int .i64 k/\s=.int .i64 ((if k=0 then 0 else if k=1 then p else p+u:Nat):Int)) (fun _ i=>2-(intOf i).toNat)
 case atStart=>exact⟨0,by omega,rfl,rfl⟩
 case round=>
  obtain⟨k,hk,rfl,rfl⟩:=hrel;obtain rfl|rfl|rfl:k=0\/k=1\/k=2:=by omega
  ·have hd:decide ((p:Int)<0)=false:=by rw[decide_eq_false_iff_not];omega
   go_wp2;go_round
   case rel=>exact⟨1,by omega,by go_num,by simp⟩
   case measure=>simp[intOf]
  ·have hd:decide ((p:Int)+(u:Int)<0)=false:=by rw[decide_eq_false_iff_not];omega
   go_wp2;go_round
   case rel=>exact⟨2,by omega,by go_num,by simp⟩
   case measure=>simp[intOf]
  ·clear b d
   go_wp2_with fail;refine(Aa HG w).mono ?_;rintro e w1 ⟨a3,c3,rfl,E,r⟩;obtain⟨b,d⟩:=Aa HC;have b:=(r.cell (World.block_lt_of_cell? w _ b)).trans b;have d:=(r.cell (World.block_lt_of_cell? w _ d)).trans d;have J:=Ab (And.intro b d);have D:=Ab E;have C:=Ab r;clear E r b d HG;go_wp2;go_loopw [6,27] (fun o i wr=> ∃k:Nat,∃a4 H c4,k<=2/\i=.int .i64 k/\o=.slice a4 H c4/\Hid (Ak wr w.heap.size (.slice a4 H c4) (bE h l k))/\Hid (Below w.heap.size w wr)) (fun _ i _=>2-(intOf i).toNat)
   case atStart=>exact⟨0,a3,0,c3,by omega,rfl,rfl,D,C⟩
   case round=>
    obtain⟨k,a4,H,c4,aa,rfl,rfl,K,q⟩:=hrel;clear D C J;obtain⟨b,d⟩:=Aa HC;have b:=((Aa q).cell (World.block_lt_of_cell? w _ b)).trans b;have d:=((Aa q).cell (World.block_lt_of_cell? w _ d)).trans d;have N:=Ab ((Aa H1).below (Aa q));have O:=Ab ((Aa H2).below (Aa q));obtain rfl|rfl|rfl:k=0\/k=1\/k=2:=by omega
    ·go_wp2_with (at_builtin;refine RD rfl (.tmp 31) (.tmp 32) rfl w.heap.size B1 (.slice a4 H c4) (.slice P p c1) [] h rfl rfl (Aa K) (Aa q).size (Aa N) (by simp;omega) ?_;intro v5 w5 f j;(try rw[List.nil_append]at f);obtain⟨a5,I,c5,rfl⟩:∃a5 I c5,v5=Value.slice a5 I c5:=(by obtain⟨a,c,e⟩:=f.shape;exact⟨a,_,c,e⟩);have A:=Ab f;have y:=Ab ((Aa q).trans j);clear f j)
     go_roundw
     case rel=>exact⟨1,_,_,_,by omega,by go_num,rfl,A,y⟩
     case measure=>simp[intOf]
    ·go_wp2_with (at_builtin;refine RD rfl (.tmp 31) (.tmp 32) rfl w.heap.size B2 (.slice a4 H c4) (.slice R u c2) h l rfl rfl (Aa K) (Aa q).size (Aa O) (by omega) ?_;intro v5 w5 f j;(try rw[List.nil_append]at f);obtain⟨a5,I,c5,rfl⟩:∃a5 I c5,v5=Value.slice a5 I c5:=(by obtain⟨a,c,e⟩:=f.shape;exact⟨a,_,c,e⟩);have A:=Ab f;have y:=Ab ((Aa q).trans j);clear f j)
     go_roundw
     case rel=>exact⟨2,_,_,_,by omega,by go_num,rfl,A,y⟩
     case measure=>simp[intOf]
    ·go_wp2
     go_ret;exact⟨_,_,_,rfl,Aa K,Aa q⟩
theorem TD{k:Int}{rs:List RV}(l:0<sizeOfK k)(i:Dm rs):∀(d j:Nat) (kn:List Nat) (bs:List ByteArray),Run k rs j kn bs->k.toNat-j<=d->∃c a,AM k rs c a
 |d,j,kn,bs,h,b=>by
  cases f:rs.find? (Cv k kn)with
  |none=>exact⟨kn,bs,⟨j,h⟩,f⟩
  |some r=>
   have e:Run k rs (j+1) (BE kn (blkOf kn r) true) (bs.set (blkOf kn r) (Do bs r.xs r.s)):=⟨kn,bs,r,h,f,rfl,rfl⟩;have o:=(Run.known l i e).le
   match d,b with
   |0,b=>omega
   |d+1,b=>exact TD l i d (j+1) _ _ e (by omega)
theorem ZF(a:Dm rs):∃kn bs,AM k rs kn bs:=by
 by_cases b:sizeOfK k=0
 ·exact⟨_,_,(I0 b).1⟩
 ·exact TD (by omega) a _ 0 _ _ ⟨rfl,rfl⟩ (Nat.le_refl _)
def peelC(k:Int)(rs:List RV)(kn:List Nat)(bs:List ByteArray):List (List Nat×ByteArray):=toldTo k kn bs k.toNat++restL k rs kn bs
theorem iU(k:Int)(a:Option Addr)(n c:Nat)(rs:List RV)(kn:List Nat)(bs:List ByteArray)(r:AM k rs kn bs)(w:World)(ht:Tab w)(h:Aj w a n rs)(y:Af rs)(hn:n<=300):
  Calls Tryz.prog 215 #[.int .i64 k,.slice a n c] w fun e w'=> ∃l o c1 us,e=.returned (.slice l o c1)/\Nz w w' (peelC k rs kn bs) l o c1 us:=by
 have K:=Ab (re k a n c rs w ht h y (by omega));have S:=Ab (P0 h y);have C:=Ab (QH h y);have X:=Ab y;have V:=Ab h.1;clear h y ht;go_enter Tryz.func215,Tryz.ntmps215;go_wp2_with fail;refine(Aa K).mono ?_;rintro e w1 ⟨l,o,c1,d,E,J,c2,f,rfl,P⟩;obtain⟨s1,s2,l1,l2⟩:=P.short (Aa S) (Aa X) (Aa C);obtain⟨aa,Y,Q,o1,H,N,o2,I,O,s⟩:=P;obtain⟨rfl,rfl⟩:=r.uniq Q;have Z:=Aa V;have q1:=(o1.at' H).2.1;have q2:=(o2.at' I).2.1;have b:Below w1.heap.size w1 (w1.alloc (.cells #[.slice l o c1,.slice E J c2] 76)):=(Below.refl _ _).alloc (Nat.le_refl _) _;have q:=Ab (gu w1.heap.size l o c1 d E J c2 f w.heap.size w.heap.size (w1.alloc (.cells #[.slice l o c1,.slice E J c2] 76)) (by simp) (by simp) (o1.below b) (o2.below b) (by omega) (by omega));have R:=Ab (show(d++f).map core=peelC k rs kn bs by rw[List.map_append,N,O];rfl);have T:=Ab (H.append I);have D:=Ab (ek s1 s2);have A:=Ab (show(d++f).length<=1000 by rw[List.length_append];omega);have p:=Ab s;have i:=Ab b;clear K Q o1 H N o2 I O s s1 s2 l1 l2 q1 q2 b Z r;go_wp2_with fail;refine(Aa q).mono ?_;rintro e w2 ⟨a3,m3,c3,rfl,u,j⟩;have W:=Ab (show Nz w w2 (peelC k rs kn bs) a3 m3 c3 (d++f) from⟨u.mono (Nat.le_trans (Aa p).size (Aa i).size),((Aa T).below (Aa i)).below j,Aa D,Aa A,Aa R,Ad (Ad (Aa p) (Aa i)) j⟩);clear u j q;go_wp2;go_ret;exact⟨_,_,_,_,rfl,Aa W⟩
theorem gw(k:Int)(a:Option Addr)(n c:Nat)(rs:List RV)(kn:List Nat)(bs:List ByteArray)(b:AM k rs kn bs)(w:World)(ht:Tab w)(h:Aj w a n rs)(o:Af rs)(r:n<=300):
  Calls Tryz.prog 185 #[.int .i64 k,.slice a n c] w fun e w'=> ∃f i c1,e=.returned (.tuple #[.slice f i c1,.bool (Ef k (peelC k rs kn bs))])/\Ar w' w.heap.size (.slice f i c1) (solveC k (peelC k rs kn bs))/\Below w.heap.size w w':=by
 have j:=Ab (dR k a n c (peelC k rs kn bs) w ht (fun w1 d=>iU k a n c rs kn bs b w1 (ht.below d) (h.below d) o r));clear ht h o b;go_enter Tryz.func185,Tryz.ntmps185;go_wp2_with fail;refine(Aa j).mono ?_;rintro e w1 ⟨f,i,c1,rfl,l,d⟩;have q:=Ab l;have p:=Ab d;clear l d j;go_wp2;go_ret2;exact⟨_,_,_,rfl,Aa q,Aa p⟩
theorem jv{b:Nat}(c:0<sizeOfK k)(a:(b:Int)<k):AV k (unitL k (b:Int))=true:=by
 refine Hc.2 ⟨by rw[JN a];exact c,JN a,fun i d=>?_⟩;rw[I7 c a,decide_eq_false (by omega)]
theorem fu(kn:List Nat)(h:AV k xs=true):AV k (dropL xs kn)=true:=by
 obtain⟨a,b,c⟩:=Hc.1 h;refine Hc.2 ⟨by rw[Ju];exact a,by rw[Ju];exact b,fun i d=>?_⟩;rw[Hf,c i d];rfl
theorem S9(d:AM k rs kn bs)(e:Dm rs):∀x∈peelC k rs kn bs,AV k x.1=true:=by
 intro x a;by_cases h:sizeOfK k=0
 ·obtain⟨i,l,o⟩:=I0 (rs:=rs) h
  obtain⟨rfl,rfl⟩:=d.uniq i;unfold peelC at a;rw[l,o]at a;cases a
 ·obtain⟨j,c⟩:=d.kn e (by omega)
  unfold peelC at a;rcases List.mem_append.1 a with a|a
  ·obtain⟨b,p,_,rfl⟩:=Iu c a
   exact jv c.size (by omega)
  ·unfold restL at a
   obtain⟨r,f,rfl⟩:=List.mem_map.1 a;have:=(List.mem_filter.1 f).2;unfold FU at this;rw[Bool.and_eq_true,Bool.and_eq_true]at this;exact fu kn this.1.1
theorem OC{ss:List ByteArray}{m:Nat}(h:∀i,(ss.getD i ByteArray.empty).size<=m)(vs:List Nat):∀n,(Br ss vs n).length<=m
 |0=>by simp[Br]
 |n+1=>by
  unfold Br;split
  ·rw[BY,AU]
   have:=OC h vs n;have:=h n;omega
  ·exact OC h vs n
theorem OY{s:ByteArray}(h:∀i,(bs.getD i ByteArray.empty).size<=m)(a:s.size=m):(Do bs xs s).size=m:=by
 unfold Do;rw[UB,Dw,a];have:=OC h xs bs.length;omega
theorem OU{k:Int}{rs:List RV}{m:Nat}(p:0<sizeOfK k)(l:Dm rs)(y:∀r∈rs,r.s.size=m):∀{j:Nat} {kn:List Nat} {bs:List ByteArray},Run k rs j kn bs->(∀b,Ai kn b=true->(bs.getD b ByteArray.empty).size=m)/\∀b,(bs.getD b ByteArray.empty).size<=m
 |0,kn,bs,⟨c,d⟩=>by
  refine⟨(fun b a=>by rw[c,Jw]at a;cases a),fun b=>?_⟩;rw[d,List.getD_eq_getElem?_getD,List.getElem?_replicate];split<;>exact Nat.zero_le _
 |j+1,kn,bs,⟨q,D,r,c,d,E,H⟩=>by
  obtain⟨N,C⟩:=OU p l y c;have u:=Run.known p l c;have A:=List.mem_of_find?_eq_some d;have ht:=OY (xs:=r.xs) C (y r A);obtain⟨O,f,J,K,i,I⟩:=KL (l r A).1 (List.find?_some d);have o:=D8 p;subst E H;refine⟨fun b a=>?_,fun b=>?_⟩
  ·rw[Iw _ _ _ _ (by rw[u.len];omega)]at a
   rw[Kl];by_cases e:b=blkOf q r
   ·rw[if_pos ⟨e,by rw[u.lenb];exact i⟩];exact ht
   ·rw[if_neg e]at a
    rw[if_neg (fun h=>e h.1)];exact N b a
  ·rw[Kl]
   split
   ·omega
   ·exact C b
theorem mw{ss:List ByteArray}(d:AM (ss.length:Int) rs kn bs)(c:Dm rs)(l:0<sizeOfK (ss.length:Int))(f:∀r∈rs,DN ss r.xs r.s=true)(i:∀r∈rs,r.s.size=m):∀x∈peelC (ss.length:Int) rs kn bs,J4 ss m x:=by
 intro x a;unfold peelC at a;obtain⟨⟨j,h⟩,u⟩:=id d;obtain⟨s1,s2⟩:=OU l c i h;have o:=Run.known l c h;rcases List.mem_append.1 a with a|a
 ·refine⟨nI d c f x a,?_⟩
  obtain⟨b,q,e,rfl⟩:=Iu o a;exact s1 b e
 ·refine⟨nH d c f x a,?_⟩
  unfold restL at a;obtain⟨r,p,rfl⟩:=List.mem_map.1 a;exact OY s2 (i r (List.mem_filter.1 p).1)
def Hv(k:Int)(rs:List RV):Nat:=(Cj (vecsL (rs.filter fun r=>AV k r.xs))).length
theorem L4(d:Dm rs)(e:∀r∈rs,r.xs.length<=10)(q:RV->Bool):AC 1048576 (vecsL (rs.filter q)):=fun b c=>by
 obtain⟨r,a,rfl⟩:=List.mem_map.1 c;have a:=(List.mem_filter.1 a).1;exact⟨(d r a).1,by have:=e r a;omega⟩
theorem oT{ss:List ByteArray}(h:AM (ss.length:Int) rs kn bs)(d:Dm rs)(E:∀r∈rs,r.xs.length<=10)(N:rs.length<=300)(i:0<sizeOfK (ss.length:Int))(D:∀r∈rs,DN ss r.xs r.s=true)(H:∀r∈rs,r.s.size=m)(p:∀b,b<ss.length->(ss.getD b ByteArray.empty).size=m):
  Ef (ss.length:Int) (peelC (ss.length:Int) rs kn bs)=decide (Hv (ss.length:Int) rs=ss.length)/\solveC (ss.length:Int) (peelC (ss.length:Int) rs kn bs)=if Hv (ss.length:Int) rs=ss.length then ss else []:=by
 have a:=S9 h d;have J:=D6 (ss.length:Int);have u:=D8 i;obtain⟨j,C⟩:=h.kn d i
 have A:Dc 1048576 (peelC (ss.length:Int) rs kn bs):=fun v I=>by
  obtain⟨x,c,rfl⟩:=List.mem_map.1 I;refine⟨?_,by have:=(Gg (a x c)).2.1;omega⟩;unfold peelC at c;rcases List.mem_append.1 c with c|c
  ·obtain⟨b,K,_,rfl⟩:=Iu C c
   exact Fm (by omega)
  ·unfold restL at c
   obtain⟨r,q,rfl⟩:=List.mem_map.1 c;exact Hj (d r (List.mem_filter.1 q).1).1 _
 have o:(peelC (ss.length:Int) rs kn bs).length<=100000:=by
  unfold peelC toldTo restL;rw[List.length_append,List.length_map,List.length_map];have f:=List.length_filter_le (fun b=>Ai kn b) (List.range (ss.length:Int).toNat);have l:=List.length_filter_le (FU (ss.length:Int) kn) rs;rw[List.length_range]at f;omega
 have q:(Cj (vecsC (peelC (ss.length:Int) rs kn bs))).length=Hv (ss.length:Int) rs:=Xd A (L4 d E _) (TE h d);obtain⟨f,l,y⟩:=ji (m:=m) i A o a (mw h d i D H) p;rw[q]at f l y;refine⟨f,?_⟩;by_cases e:Hv (ss.length:Int) rs=ss.length
 ·rw[if_pos e];exact l e
 ·rw[if_neg e];exact y e
theorem nt(k z n:Int)(w:World):
  Calls Tryz.prog 183 #[.int .i64 k,.int .i64 z,.int .i64 n] w fun e w'=>e=.returned (.pointer (some ⟨w.heap.size,0,none⟩))/\Aw w' w.heap.size w.heap.size k z (capN n) (.slice none 0 0) [] false/\Below w.heap.size w w':=by
 have a:=MV n;have b:=MN n;go_enter Tryz.func183,Tryz.ntmps183;go_wp2;go_ret;exact⟨rfl,⟨YC _ _ _ _ _ _ _,Nat.le_refl _,Ak.nil _ _,AG.nil _ _,Nat.zero_le _,JQ n,L6⟩,(Below.refl _ _).alloc (Nat.le_refl _) _⟩
theorem XW(g B:Nat)(k z:Int)(m:Nat)(v:Value)(rs:List RV)(ov:Bool)(w:World)(h:Aw w g B k z m v rs ov):
  Calls Tryz.prog 87 #[.pointer (some ⟨g,0,none⟩)] w fun e w'=>e=.returned (.int .i64 (rs.length:Int))/\w'=w:=by
 obtain⟨a,c,rfl, -, -, -⟩:=h.at;obtain⟨b,d,f,i,j⟩:=h.blk.at;clear h;go_enter Tryz.func87,Tryz.ntmps87;go_wp2;go_ret;exact⟨rfl,rfl⟩
theorem XX(w:World):Calls Tryz.prog 87 #[.pointer none] w fun e w'=>e=.returned (.int .i64 0)/\w'=w:=by
 go_enter Tryz.func87,Tryz.ntmps87;go_wp2;go_ret;exact⟨rfl,rfl⟩
def rankN(rs:List RV):Nat:=(keepL (vecsL rs) rs.length).length
theorem Wr(g B:Nat)(k z:Int)(m:Nat)(v:Value)(rs:List RV)(ov:Bool)(w:World)(ht:Tab w)(h:Aw w g B k z m v rs ov):
  Calls Tryz.prog 88 #[.pointer (some ⟨g,0,none⟩)] w fun e w'=>e=.returned (.int .i64 (rankN rs:Int))/\Below w.heap.size w w':=by
 obtain⟨a,c,rfl,d, -, -⟩:=h.at;obtain⟨i,j,l,o,p⟩:=h.blk.at;have f:=Ab (lu a rs.length c rs w ht d h.rows.rows h.short (by have:=h.le;have:=h.most;omega));clear h d ht;go_enter Tryz.func88,Tryz.ntmps88;go_wp2_with (go_at_call 128;refine(Aa f).mono ?_;rintro e w1 ⟨rfl,b⟩);go_ret;exact⟨rfl,b⟩
theorem rv(w:World):Calls Tryz.prog 88 #[.pointer none] w fun e w'=>e=.returned (.int .i64 0)/\w'=w:=by
 go_enter Tryz.func88,Tryz.ntmps88;go_wp2;go_ret;exact⟨rfl,rfl⟩
theorem Ba.belowB{x y:Value}(h:Ba w g x y)(a:Below B w w')(b:g<B):Ba w' g x y:=
 ⟨⟨(a.cell (p:=⟨g,0,none⟩) b).trans h.1.1,(a.cell (p:=⟨g,1,none⟩) b).trans h.1.2⟩,(a.frozen (p:=⟨g,0,none⟩) b).trans h.2.1,(a.frozen (p:=⟨g,1,none⟩) b).trans h.2.2⟩
theorem SG(a:Option Addr)(n c:Nat)(xs:List Nat)(s:ByteArray)(w:World)(h:RowAt w a n xs)(T:n<=1048576)(Q:s.size<=1048576):
  Calls Tryz.prog 217 #[.agg #[.slice a n c,.string s]] w fun e w'=> ∃l c2,e=.returned (.agg #[.slice l n c2,.string s])/\Own w' w.heap.size (.slice l n c2) xs/\Below w.heap.size w w':=by
 have u:=(JO w (.slice a n c) (.string s)).alloc (.cells #[.slice none 0 0,.string ⟨#[]⟩] 73);have j:=JO (w.alloc (.cells #[.slice a n c,.string s] 73)) (.slice none 0 0) (.string ⟨#[]⟩);rw[Bc]at j;have f:Below w.heap.size w ((w.alloc (.cells #[.slice a n c,.string s] 73)).alloc (.cells #[.slice none 0 0,.string ⟨#[]⟩] 73)):=GV (Below.refl _ w) (Below.refl _ _);have r:((w.alloc (.cells #[.slice a n c,.string s] 73)).alloc (.cells #[.slice none 0 0,.string ⟨#[]⟩] 73)).heap.size=w.heap.size+2:=by rw[Bc,Bc]
 have J:=h.below f;have q:=h.1;generalize hW:(w.alloc (.cells #[.slice a n c,.string s] 73)).alloc (.cells #[.slice none 0 0,.string ⟨#[]⟩] 73)=W at*;have D:=Ab (fun wx (A:Below W.heap.size W wx)=>He a n c xs wx (J.below A) (by omega));have E:=Ab (fun wx=>GS s wx Q);have I:=Ab (fun wx (A:Below W.heap.size W wx)=>show _/\_ from⟨u.below A,j.below A⟩);have C:=Ab f;have O:=Ab q;have P:=Ab r;obtain⟨⟨c0,c1⟩, -, -⟩:=u;clear h J j f q r;go_enter Tryz.func217,Tryz.ntmps217;go_wp2_with fail
 go_region_held3 (fun w'=>w'.cell? ⟨w.heap.size,0,none⟩=some (.slice a n c)/\w'.cell? ⟨w.heap.size,1,none⟩=some (.string s)) (go_keep) (first
  |(go_at_call 253;refine(Aa D _ (by first|exact Aa y|exact(Below.refl _ _).drew)).mono ?_;rintro e w1 ⟨V,rfl,b,o⟩;obtain⟨l,c2,rfl, -⟩:=b.row;have H:=Ab (show Below W.heap.size W w1 from Ad (by first|exact Aa y|exact(Below.refl _ _).drew) o);rw[Aa O]at b⊢;have d:=Ab (b.mono (B':=w.heap.size+2) (Nat.le_of_eq (Aa P).symm));obtain⟨⟨⟨R,S⟩, -, -⟩,⟨⟨K,N⟩,f0,f1⟩⟩:=Aa I w1 (Aa H);clear b o)
  |(go_at_call 33;refine(Aa E _).mono ?_;rintro e w2 ⟨rfl,i⟩;have y:=Ab (show Below W.heap.size W w2 from Ad (by first|exact Aa H|exact(Below.refl _ _).drew) i);(first|(have d:=Ab ((Aa d).below i))|skip);obtain⟨⟨⟨R,S⟩, -, -⟩,⟨⟨K,N⟩,f0,f1⟩⟩:=Aa I w2 (Aa y);clear i))
 all_goals go_wp2
 exact bodyPost_ret (v:=.agg #[.slice l n c2,.string s]) (by simp[results,Tryz.results217,go_sem,K,N]) rfl
  ⟨l,c2,rfl,(((Aa d).other 0 _ (Nat.lt_succ_self _)).other 1 _ (Nat.lt_succ_self _)).mono (Nat.le_add_right _ _),((Ad (Aa C) (Aa y)).setCell (p:=⟨w.heap.size+1,0,none⟩) (Nat.le_succ _) _).setCell (p:=⟨w.heap.size+1,1,none⟩) (Nat.le_succ _) _⟩
theorem Aw.cells(h:Aw w g B k z m v rs ov)(a:Below w.heap.size w w'):
  w'.cell? ⟨g,0,none⟩=some (.int .i64 k)/\w'.cell? ⟨g,1,none⟩=some (.int .i64 z)/\w'.cell? ⟨g,2,none⟩=some (.int .i64 (m:Int))/\w'.cell? ⟨g,3,none⟩=some v/\w'.cell? ⟨g,4,none⟩=some (.bool ov):=(h.blk.below a).at
theorem oN(g B:Nat)(k z:Int)(m:Nat)(v:Value)(rs:List RV)(ov:Bool)(a:Option Addr)(n c:Nat)(xs:List Nat)(s:ByteArray)(w:World)(h:Aw w g B k z m v rs ov)(E:RowAt w a n xs)(S:n<=1048576)(hs:s.size<=1048576):
  Calls Tryz.prog 211 #[.pointer (some ⟨g,0,none⟩),.agg #[.slice a n c,.string s]] w fun e w'=>e=.returned (.bool (Cb k z (xs,s)))/\Below w.heap.size w w':=by
 have b:Below w.heap.size w (w.alloc (.cells #[.slice a n c,.string s] 73)):=(Below.refl _ _).alloc (Nat.le_refl _) _;have X:=GT w (.slice a n c) (.string s);have i:=h.below b;have f:=E.below b;generalize hW:w.alloc (.cells #[.slice a n c,.string s] 73)=W at*;have D:=Ab (Cr (W:=W) (fun w' p=>(L7 a n c xs k w' (f.below p)).mono fun e aa ⟨R,q⟩=>⟨Nx R,q⟩));have C:=Ab (Cr (W:=W) (fun w' p=>Th (GP a n c xs w' (f.below p) S)));obtain⟨H,I, -, -, -⟩:=i.blk.at;obtain⟨c0,c1⟩:=X;have Y:=cell_regrown H;have r1:=cell_regrown I;have r2:=cell_regrown c0;have Z:=cell_regrown c1;have o:=Ab b;have d:Cb k z (xs,s)=(AV k xs&&decide (0<cnt xs)&&decide ((s.size:Int)=z)):=rfl;rw[d];clear h E i f b d H I c0 c1;generalize cnt xs=N at*;generalize AV k xs=V at*;have r:decide ((0:Int)<(N:Int))=decide (0<N):=by by_cases h:0<N<;>simp[h]
 have u:((s.size:Int)==z)=decide ((s.size:Int)=z):=by by_cases h:(s.size:Int)=z<;>simp[h]
 go_enter Tryz.func211,Tryz.ntmps211;cases T:V<;>cases P:decide (0<N)<;>cases Q:decide ((s.size:Int)=z)
 all_goals (subst T;rw[P]at r;rw[Q]at u)
 all_goals go_wp2_with fail
 all_goals refine wp_region_quiet_below (by kernel_rfl) (by kernel_rfl) ?_
 all_goals (repeat (with_reducible refine wpQuiet_step (fun K l=>?_);go_simp;first|(with_reducible refine l _ ?_;clear l K)|(apply Exists.intro;apply And.intro;(intro _;first|(go_at_call 179;exact Aa D _ _)|(go_at_call 180;exact Aa C _ _));with_reducible refine l _ ?_;clear l K)))
 all_goals refine wpQuiet_nil ?_
 all_goals (intro _ y;obtain⟨⟨O,A⟩,j⟩:=y;subst j)
 all_goals have J:=Ab (below_regrown W O A)
 all_goals clear D C Y r1 r2 Z
 all_goals go_wp2
 all_goals go_ret
 all_goals exact⟨rfl,Ad (Aa o) (Aa J)⟩
theorem ij(p v0 a:Value)(w:World):Calls Tryz.prog 212 #[p,.agg #[v0,a]] w fun e w'=>e=.returned (.int .i64 1)/\Below w.heap.size w w':=by
 go_enter Tryz.func212,Tryz.ntmps212;go_wp2;go_ret;exact⟨rfl,(Below.refl _ _).alloc (Nat.le_refl _) _⟩
theorem dw(g B:Nat)(k z:Int)(m:Nat)(v:Value)(rs:List RV)(ov:Bool)(v0 c:Value)(w:World)(h:Aw w g B k z m v rs ov):
  Calls Tryz.prog 213 #[.pointer (some ⟨g,0,none⟩),.agg #[v0,c]] w fun e w'=>e=.returned (.int .i64 5)/\Aw w' g B k z m v rs true/\Tu (C1 g v) w w':=by
 have b:Below w.heap.size w (w.alloc (.cells #[v0,c] 73)):=(Below.refl _ _).alloc (Nat.le_refl _) _;have a:=h.below b;have l:=Ab a;have d:=Ab b;obtain⟨q,r,s,u,y⟩:=a.blk.at;have f4:=a.blk.frz 4;clear h a b;go_enter Tryz.func213,Tryz.ntmps213;go_wp2;go_ret;have a:=Aa l;have i:=BF (w.alloc (.cells #[v0,c] 73)) g 4 (.bool true);have ht:Tu (C1 g v) (w.alloc (.cells #[v0,c] 73)) ((w.alloc (.cells #[v0,c] 73)).setCell ⟨g,4,none⟩ (.bool true)):=Tu.of_gb i fun j _ e=>.inl (Option.some.inj e).symm;refine⟨rfl,⟨a.blk.set4 _,a.lo,?_,?_,a.le,a.most,a.short⟩,ht.after (Aa d)⟩
 ·refine World.ownsRow.kept a.own i ?_
  by_cases p:v.ownBlock=none
  ·exact .inl p
  ·refine .inr fun e=>?_
   obtain⟨o,f⟩:=a.own.blk5 e;have:=a.blk;unfold Bj at this;rw[this]at f;simp only[Option.some.injEq,Obj.cells.injEq]at f;exact absurd f.2.1 (by decide)
 ·exact a.rows.tu ht a.words
theorem dp{ops:Array Oper}{o:Oper}{a:Act}{K:Act->World->Prop}{Q:Exit->Act->World->Prop}{E:Prop}(e:o.guard=none)(s x:Operand)
  (H:o.op=.call {callee:=.builtin .append,args:=#[s,x],argTypes:=#[76,76]}) (B:Nat) (v:Value) (rs:List RV) (r:RV) (I:a.eval s=v) (d:Ak w B v rs) (b:Nat)
  (J:a.eval x=.slice (some ⟨b,0,none⟩) 1 1) (C:w.heap[b]? =some (.cells #[.slice r.a r.n r.c,.string r.s] 73 (0,0))) (O:rs.length<=1000000) (A:B<=w.heap.size)
  (h:∀g cap w',Ak w' B (.slice (some ⟨g,0,none⟩) (rs.length+1) cap) (rs++[r])->w.grownBy w' v.ownBlock->(v.ownBlock=some g\/g=w.heap.size)->K (a.put o.dst (.slice (some ⟨g,0,none⟩) (rs.length+1) cap)) w'):
  if Region.wanted o (yielded ops a.tmps)=true then Oper.wp Tryz.prog o a w K Q else E:=by
 obtain⟨N,D,i,j,l⟩:=info_parts Ku
 refine step_append_lies w e s x 76 H B 73 N (.agg #[.slice none 0 0,.string ⟨#[]⟩]) 2 40 Tryz.underlying76 D i j l rfl (by decide) v rs.length (cellsR rs) I d ⟨b,0,none⟩ 1 1 [.slice r.a r.n r.c,.string r.s] J rfl
  (World.news_of_block C) (fun u f=>by rcases List.mem_cons.1 f with rfl|f<;>first|rfl|(rw[List.mem_singleton.1 f];rfl)) (by decide) (by unfold maxLen;omega) (by omega) A _ rfl (fun g cap w' p q y _=>h g cap w' ?_ q y)
 show w'.ownsRow B 73 2 _ (rs++[r]).length (cellsR (rs++[r]));rw[List.length_append,Kh];exact p
theorem lJ{W w1 w2:World}{s:ByteArray}{c:Option Addr}{c2 g2 cap:Nat}(N:g<w.heap.size)(D:Below w.heap.size w W)(a:Aw W g B k z m v rs ov)(p:Below W.heap.size W w1)
  (J:Own w1 W.drew.heap.size (.slice c n c2) xs) (i:Below w1.heap.size w1 (w1.alloc (.cells #[.slice c n c2,.string s] 73)))
  (A:Ak w2 B (.slice (some ⟨g2,0,none⟩) (rs.length+1) cap) (rs++[⟨c,n,c2,xs,s⟩])) (q:(w1.alloc (.cells #[.slice c n c2,.string s] 73)).grownBy w2 v.ownBlock) (C:v.ownBlock=some g2\/g2=(w1.alloc (.cells #[.slice c n c2,.string s] 73)).heap.size)
  (O:n<=10) (P:s.size<=1000) (R:rs.length<m):
  ∃v' r,(Ending.returned (.int .i64 0):Ending)=.returned (.int .i64 0)/\core r=(xs,s)/\Aw (w2.setCell ⟨g,3,none⟩ (.slice (some ⟨g2,0,none⟩) (rs.length+1) cap)) g B k z m v' (rs++[r]) ov/\Tu (C1 g v) w (w2.setCell ⟨g,3,none⟩ (.slice (some ⟨g2,0,none⟩) (rs.length+1) cap))/\
   (v'.ownBlock=v.ownBlock\/∀j,v'.ownBlock=some j->w.heap.size<=j):=by
 have l:=(a.below p).below i;generalize Q:w1.alloc (.cells #[.slice c n c2,.string s] 73)=X at*
 have I:some g≠v.ownBlock:=fun e=>by
  obtain⟨f,b⟩:=l.own.blk5 e.symm;have:=l.blk;unfold Bj at this;rw[this]at b;simp only[Option.some.injEq,Obj.cells.injEq]at b;exact absurd b.2.1 (by decide)
 have y:=l.blk.kept q I
 have E:g≠g2:=fun e=>by
  subst e;obtain⟨f,b⟩:=A.blk5 (g:=g) rfl;have:=y;unfold Bj at this;rw[this]at b;simp only[Option.some.injEq,Obj.cells.injEq]at b;exact absurd b.2.1 (by decide)
 have u:=BF w2 g 3 (.slice (some ⟨g2,0,none⟩) (rs.length+1) cap)
 have ht:Tu (C1 g v) X (w2.setCell ⟨g,3,none⟩ (.slice (some ⟨g2,0,none⟩) (rs.length+1) cap)):=
  (Tu.of_gb (F:=C1 g v) q fun j _ e=>.inr e).trans (Tu.of_gb (F:=C1 g v) u fun j _ e=>.inl (Option.some.inj e).symm) fun _ _ h=>h
 have o:Below w.heap.size w X:=Ad (Ad D p) i;have K:W.drew.heap.size=W.heap.size:=rfl;have d:Own X B (.slice c n c2) xs:=(J.mono (by rw[K];exact a.lob)).below i;refine⟨_,⟨c,n,c2,xs,s⟩,rfl,rfl,⟨y.set3 _,a.lo,?_,?_,?_,a.most,a.short.snoc O P⟩,ht.after o,?_⟩
 ·refine World.ownsRow.kept A u (.inr fun e=>E ?_)
  exact(Option.some.inj e).symm
 ·exact(l.rows.tu ht l.words).snoc (d.tu ht fun j H=>by
   obtain⟨f,b⟩:=d.blkU H;exact l.words j f b)
 ·rw[List.length_append,List.length_singleton];omega
 ·rcases C with e|e
  ·exact .inl (by rw[e];rfl)
  ·refine .inr fun j H=>?_
   obtain rfl:g2=j:=Option.some.inj H;rw[e];exact o.size
theorem jj(g B:Nat)(k z:Int)(m:Nat)(v:Value)(rs:List RV)(ov:Bool)(a:Option Addr)(n c:Nat)(xs:List Nat)(s:ByteArray)(w:World)(h:Aw w g B k z m v rs ov)(hr:RowAt w a n xs)(hn:n<=10)(hs:s.size<=1000)(hl:rs.length<m):
  Calls Tryz.prog 214 #[.pointer (some ⟨g,0,none⟩),.agg #[.slice a n c,.string s]] w fun e w'=> ∃v' r,e=.returned (.int .i64 0)/\core r=(xs,s)/\Aw w' g B k z m v' (rs++[r]) ov/\Tu (C1 g v) w w'/\
   (v'.ownBlock=v.ownBlock\/∀j,v'.ownBlock=some j->w.heap.size<=j):=by
 have i:Below w.heap.size w (w.alloc (.cells #[.slice a n c,.string s] 73)):=(Below.refl _ _).alloc (Nat.le_refl _) _;have hx:=GT w (.slice a n c) (.string s);have b:=h.below i;have K:=hr.below i;have u:g<w.heap.size:=h.lt;generalize hW:w.alloc (.cells #[.slice a n c,.string s] 73)=W at*;have R:=Ab (SG a n c xs s W.drew (K.below (Below.refl _ _).drew) (by omega) (by omega));obtain⟨k0,k1,k2,k3,k4⟩:=b.blk.at;obtain⟨c0,c1⟩:=hx;have P:=Ab i;have HS:=Ab b;have T:Hid (rs.length<=1000000):=Ab (by have:=b.most;omega)
 have V:Hid (some g≠v.ownBlock):=Ab fun e=>by
  obtain⟨ac,hc⟩:=b.own.blk5 e.symm;have:=b.blk;unfold Bj at this;rw[this]at hc;simp only[Option.some.injEq,Obj.cells.injEq]at hc;exact absurd hc.2.1 (by decide)
 have A:Hid (some w.heap.size≠v.ownBlock):=Ab fun e=>by
  have:=(World.ownsRow.lt h.own _ e.symm).2;omega
 have ad:g≠w.heap.size:=Nat.ne_of_lt u;have aa:w.heap.size≠g:=Nat.ne_of_gt u;clear h hr b K i;go_enter Tryz.func214,Tryz.ntmps214;go_wp2_with fail
 go_region_law (first
  |(go_simp;go_at_call 217;refine(Aa R).mono ?_;rintro e w1 ⟨a2,c2,rfl,I,D⟩;have N:=Ab (show Below W.heap.size W w1 from Ad (Below.refl _ _).drew D);have y:=(Aa HS).below (Aa N);have q:=Ab y;have Y:=Ab I;obtain⟨-, -, -,q3, -⟩:=y.blk.at;have q0:=((Aa N).cell (p:=⟨w.heap.size,0,none⟩) (World.block_lt_of_cell? W _ c0)).trans c0;have q1:=((Aa N).cell (p:=⟨w.heap.size,1,none⟩) (World.block_lt_of_cell? W _ c1)).trans c1;have l:Below w1.heap.size w1 (w1.alloc (.cells #[.slice a2 n c2,.string s] 73)):=(Below.refl _ _).alloc (Nat.le_refl _) _;have d:=Ab l;have ae:=(l.cell (p:=⟨g,3,none⟩) (World.block_lt_of_cell? w1 _ q3)).trans q3;have H:=heap_alloc_new w1 (.cells #[.slice a2 n c2,.string s] 73);have X:=Ab H;have Q:=Ab (Nat.le_trans (Aa q).lob l.size);clear I D y l H)
  |(refine dp (by rfl) _ _ (by rfl) B v rs ⟨a2,n,c2,xs,s⟩ (by rfl) ((Aa q).own.below (Aa d)) w1.heap.size (by rfl) (Aa X) (Aa T) (Aa Q) ?_;intro g2 cap w2 J f C;have Z:=Ab J;have S:=Ab f;have O:=Ab C;have E:=(Aa q).below (Aa d);have o:=E.blk.kept f (Aa V);obtain⟨-, -, -,u3, -⟩:=o.at;have uf:=o.frz 3;have ab:=Ab o;have u0:=f.cell (a:=⟨w.heap.size,0,none⟩) (((Aa d).cell (World.block_lt_of_cell? w1 _ q0)).trans q0) (Aa A);have u1:=f.cell (a:=⟨w.heap.size,1,none⟩) (((Aa d).cell (World.block_lt_of_cell? w1 _ q1)).trans q1) (Aa A);clear J f C E o))
 all_goals go_wp2
 all_goals go_ret
 all_goals exact lJ u (Aa P) (Aa HS) (Aa N) (Aa Y) (Aa d) (Aa Z) (Aa S) (Aa O) hn hs hl
def Kf(f l:Bool):FuncId:=match f,l with
 |false,_=>212
 |true,true=>214
 |true,false=>213
theorem oB(g B:Nat)(k z:Int)(m:Nat)(v:Value)(rs:List RV)(ov:Bool)(a:Option Addr)(n c:Nat)(xs:List Nat)(s:ByteArray)(w:World)(h:Aw w g B k z m v rs ov)(y:RowAt w a n xs)(I:n<=10)(J:s.size<=1000):
  Calls Tryz.prog 184 #[.pointer (some ⟨g,0,none⟩),.agg #[.slice a n c,.string s]] w fun e w'=>e=.returned (.func (.func (Kf (Cb k z (xs,s)) (decide (rs.length<m)))) #[.pointer (some ⟨g,0,none⟩)] #[])/\Below w.heap.size w w':=by
 have D:∀(q:Fn) (first cap:Array Value) (w:World),(Instr.makeFunc q first cap).run Tryz.prog w=.ok (.func q first cap) w:=fun _ _ _ _=>rfl;have d:Below w.heap.size w (w.alloc (.cells #[.slice a n c,.string s] 73)):=(Below.refl _ _).alloc (Nat.le_refl _) _;have f:=h.below d;have C:=h.le;have o:=Ab (oN g B k z m v rs ov a n c xs s _ f (y.below d) (by omega) (by omega));obtain⟨E,H,rfl, -, -, -⟩:=f.at;have p:=Ab f;have j:=Ab d;clear h y f d;generalize r:Kf (Cb k z (xs,s)) (decide (rs.length<m))=T;have l:=Ab r;clear r;go_enter Tryz.func184,Tryz.ntmps184;go_wp2_with fail;refine(Aa o).mono ?_;rintro e w1 ⟨rfl,i⟩;have b:=Ab (Ad (Aa j) i);obtain⟨K,N,O,P,Q⟩:=((Aa p).below i).blk.at;clear o p i;generalize Cb k z (xs,s)=F at*;cases F
 ·go_wp2
  go_ret;exact⟨by rw[<-Aa l];rfl,Aa b⟩
 ·by_cases u:rs.length<m
  ·have A:((rs.length:Int)==(m:Int))=false:=by rw[beq_eq_false_iff_ne];omega
   go_wp2;go_quiet (fail);go_wp2;go_ret;exact⟨by rw[<-Aa l,decide_eq_true u];rfl,⟨(Aa b).os,(Aa b).tape,(Aa b).output,(Aa b).size,(Aa b).block⟩⟩
  ·have A:((rs.length:Int)==(m:Int))=true:=by rw[beq_iff_eq];omega
   go_wp2;go_quiet (fail);go_wp2;go_ret;exact⟨by rw[<-Aa l,decide_eq_false u];rfl,⟨(Aa b).os,(Aa b).tape,(Aa b).output,(Aa b).size,(Aa b).block⟩⟩
def cT(w w':World)(g B:Nat)(k z:Int)(m:Nat)(v:Value)(rs:List RV)(ov:Bool)(x:List Nat×ByteArray)(e:Ending):Prop:=
 e=.returned (.int .i64 (IV k z m (rs.map core) x))/\∃v' a,Aw w' g B k z m v' a (IU k z m (rs.map core) ov x)/\a.map core=IW k z m (rs.map core) x/\Tu (C1 g v) w w'/\(v'.ownBlock=v.ownBlock\/∀j,v'.ownBlock=some j->w.heap.size<=j)
theorem ZI(h:Cb k z x=false):IV k z m L x=1/\IW k z m L x=L/\∀o,IU k z m L o x=o:=by
 unfold IV IW IU;simp[h]
theorem QY(h:Cb k z x=true)(a:L.length<m):IV k z m L x=0/\IW k z m L x=L++[x]/\∀o,IU k z m L o x=o:=by
 unfold IV IW IU;simp[h,a]
theorem Wo(h:Cb k z x=true)(a:¬L.length<m):IV k z m L x=5/\IW k z m L x=L/\∀o,IU k z m L o x=true:=by
 unfold IV IW IU;simp only[h,a,if_true,if_false,and_false,true_and,not_false_eq_true];exact fun _=>trivial
theorem Xb(g B:Nat)(k z:Int)(m:Nat)(v:Value)(rs:List RV)(ov:Bool)(a:Option Addr)(n c:Nat)(xs:List Nat)(s:ByteArray)(w:World)(h:Aw w g B k z m v rs ov)(O:RowAt w a n xs)(T:n<=10)(V:s.size<=1000):
  Calls Tryz.prog 161 #[.pointer (some ⟨g,0,none⟩),.agg #[.slice a n c,.string s]] w fun e w'=>cT w w' g B k z m v rs ov (xs,s) e:=by
 have b:Below w.heap.size w (w.alloc (.cells #[.slice a n c,.string s] 73)):=(Below.refl _ _).alloc (Nat.le_refl _) _;have W:=GT w (.slice a n c) (.string s);have o:=h.below b;have u:=Ab (oB g B k z m v rs ov a n c xs s _ o (O.below b) T V);have S:=Ab W;have R:=Ab o;have Q:=Ab (O.below b);have H:=Ab b;have r:=Ab (show(rs.map core).length=rs.length from List.length_map core);obtain⟨c0,c1⟩:=W;clear h O o b;go_enter Tryz.func161,Tryz.ntmps161;go_wp2_with fail;refine(Aa u).mono ?_;rintro e w1 ⟨rfl,d⟩;obtain⟨Z,d1⟩:=(Aa S).below d;have f:=Ab (Ad (Aa H) d);have i:=Ab ((Aa R).below d);have J:=Ab ((Aa Q).below d);clear u S R Q d c0 c1;cases N:Cb k z (xs,s)
 ·rw[show Kf false (decide (rs.length<m))=212 from rfl]
  go_wp2_with (go_at_call 212;refine(ij _ _ _ _).mono ?_;rintro e w2 ⟨rfl,y⟩);go_ret;obtain⟨C,D,E⟩:=ZI (m:=m) (L:=rs.map core) N;refine⟨by rw[C];rfl,v,rs,?_,D.symm,Tu.of_below (Ad (Aa f) y),.inl rfl⟩;rw[E];exact(Aa i).below y
 ·by_cases A:rs.length<m
  ·rw[show Kf true (decide (rs.length<m))=214 by rw[decide_eq_true A];rfl]
   have I:=Ab (jj g B k z m v rs ov a n c xs s w1 (Aa i) (Aa J) T V A);go_wp2_with (go_at_call 214;refine(Aa I).mono ?_;rintro e w2 ⟨Y,r2,rfl,K,l,p,P⟩);go_ret;obtain⟨C,D,E⟩:=QY (m:=m) (L:=rs.map core) N (by rw[Aa r];exact A);refine⟨by rw[C];rfl,Y,rs++[r2],?_,?_,p.after (Aa f),P.imp id fun q j X=>Nat.le_trans (Aa f).size (q j X)⟩
   ·rw[E];exact l
   ·rw[D,List.map_append,<-K];rfl
  ·rw[show Kf true (decide (rs.length<m))=213 by rw[decide_eq_false A];rfl]
   have I:=Ab (dw g B k z m v rs ov (.slice a n c) (.string s) w1 (Aa i));go_wp2_with (go_at_call 213;refine(Aa I).mono ?_;rintro e w2 ⟨rfl,l,p⟩);go_ret;obtain⟨C,D,E⟩:=Wo (m:=m) (L:=rs.map core) N (by rw[Aa r];exact A);refine⟨by rw[C];rfl,v,rs,?_,D.symm,p.after (Aa f),.inl rfl⟩;rw[E];exact l
def Ec(n:Nat)(us:List RV):List RV:=us++List.replicate (n-us.length) zR
theorem gF(n:Nat):Ec n []=List.replicate n zR:=by simp[Ec]
theorem eH(h:us.length<=n):(Ec n us).length=n:=by simp[Ec];omega
theorem kJ(h:us.length=n):Ec n us=us:=by simp[Ec,h]
theorem gD(r:RV)(h:us.length<n):(Ec n us).set us.length r=Ec n (us++[r]):=by
 unfold Ec;rw[List.set_append_right _ _ (Nat.le_refl _),Nat.sub_self,List.length_append,List.length_singleton,List.append_assoc,show n-us.length=(n-(us.length+1))+1 by omega,List.replicate_succ,List.set_cons_zero];rfl
theorem AG.set(h:AG w B rs)(i:Nat)(u:Value)(a:g<B):AG (w.setCell ⟨g,i,none⟩ u) B rs:=fun r b=>(h r b).other i u a
def IL(w w':World)(rs:List RV)(e:Ending):Prop:=∃b c us,e=.returned (.slice (some ⟨b,0,none⟩) rs.length c)/\Ak w' w.heap.size (.slice (some ⟨b,0,none⟩) rs.length c) us/\AG w' w.heap.size us/\us.map core=rs.map core/\Below w.heap.size w w'
theorem rB(g B:Nat)(k z:Int)(m:Nat)(v:Value)(rs:List RV)(ov:Bool)(w:World)(h:Aw w g B k z m v rs ov):
  Calls Tryz.prog 186 #[.pointer (some ⟨g,0,none⟩)] w fun e w'=>IL w w' rs e:=by
 obtain⟨a,c,rfl,hR, -, -⟩:=h.at;obtain⟨k0,k1,k2,k3,k4⟩:=h.blk.at;have ak:rs.length<=256:=Nat.le_trans h.le h.most;have al:=M2 rs.length (by omega);have HM:=Ab (M1 w rs.length (by omega) (Ec rs.length []) (gF _));have A:Below w.heap.size w (w.alloc (.cells (madeCells #[.slice none 0 0,.string ⟨#[]⟩] (rs.length*2)) 73)):=(Below.refl _ _).alloc (Nat.le_refl _) _;obtain⟨j0,j1,j2,j3,j4⟩:=(h.blk.below A).at;have H:=Ab A;have HZ:=Ab (show w.heap.size+1<=(w.alloc (.cells (madeCells #[.slice none 0 0,.string ⟨#[]⟩] (rs.length*2)) 73)).heap.size by rw[Bc];exact Nat.le_refl _);have Hh:=Ab hR;have ab:=Ab h.short;have ah:=Ab h.rows.rows;clear h hR A;go_enter Tryz.func186,Tryz.ntmps186;go_wp2;go_loopw [19] (fun i wr=> ∃us:List RV,us.length<=rs.length/\i=.int .i64 us.length/\Hid (Ak wr w.heap.size (.slice (some ⟨w.heap.size,0,none⟩) rs.length rs.length) (Ec rs.length us))/\Hid (AG wr (w.heap.size+1) us)/\Hid (us.map core=(rs.take us.length).map core)/\Hid (Below w.heap.size w wr)/\Hid (w.heap.size+1<=wr.heap.size)) (fun i _=>rs.length-(intOf i).toNat)
 case atStart=>exact⟨[],Nat.zero_le _,rfl,HM,Ab (AG.nil _ _),Ab rfl,H,HZ⟩
 case round=>
  obtain⟨us,hk,rfl,W,HU,V,E,q⟩:=hrel;clear HM H HZ;by_cases f:us.length<rs.length
  ·obtain⟨b,off,rfl,P⟩:=((Aa Hh).below (Aa E)).at f
   obtain⟨ai,aj⟩:=P us.length f;have ag:(us.length:Int)<(rs.length:Int):=by omega
   have l:=((Aa Hh).below (Aa E)).2.1 us.length f;have am:=Aa ab us.length;have K:=Ab (jo rs us.length f);generalize rs.getD us.length .dflt=r at*;have y:Below wr.heap.size wr (wr.alloc (.cells #[.slice r.a r.n r.c,.string r.s] 73)):=(Below.refl _ _).alloc (Nat.le_refl _) _;have I:=Ab (SG r.a r.n r.c r.xs r.s _ (l.below y) (by omega) (by omega));have o:=Ab y;obtain⟨an,ao⟩:=GT wr (.slice r.a r.n r.c) (.string r.s);clear P l y;go_wp2_with fail;refine(Aa I).mono ?_;rintro e w2 ⟨j,c2,rfl,R,O⟩;have d:=Ad (Aa o) O;have N:=(Aa W).below d;have Q:=eH hk;have C:=Il (Ec rs.length us) us.length (by omega);have X:=N.cellAt C.1;have Y:=N.cellAt C.2;have u:w2.ownsRow w.heap.size 73 2 (.slice (some ⟨w.heap.size,0,none⟩) rs.length rs.length) rs.length (cellsR (Ec rs.length us)):=by
    have:w2.ownsRow w.heap.size 73 2 (.slice (some ⟨w.heap.size,0,none⟩) rs.length rs.length) (Ec rs.length us).length (cellsR (Ec rs.length us)):=N;rwa[Q]at this
   have ae:=u.frozenAt (us.length*2);have af:=u.frozenAt (us.length*2+1);have D:=N.stored us.length ⟨j,r.n,c2,r.xs,r.s⟩;rw[gD _ f]at D;have hZ:=Nat.le_trans (Aa q) (Nat.le_trans (Aa o).size (Nat.le_refl _));have S:=(((Aa HU).below d).snoc (r:=⟨j,r.n,c2,r.xs,r.s⟩) (R.mono hZ));have ac:=Ab ((S.set (us.length*2) (.slice j r.n c2) (Nat.lt_succ_self _)).set (us.length*2+1) (.string r.s) (Nat.lt_succ_self _))
   have aa:=Ab (show(us++[(⟨j,r.n,c2,r.xs,r.s⟩:RV)]).map core=(rs.take (us++[(⟨j,r.n,c2,r.xs,r.s⟩:RV)]).length).map core by
    rw[List.length_append,List.length_singleton,<-Aa K,List.map_append,List.map_append,Aa V];rfl)
   have HS:=Ab D;have Z:=Ab (((Ad (Aa E) d).setCell (p:=⟨w.heap.size,us.length*2,none⟩) (Nat.le_refl _) (.slice j r.n c2)).setCell (p:=⟨w.heap.size,us.length*2+1,none⟩) (Nat.le_refl _) (.string r.s))
   have ad:=Ab (show w.heap.size+1<=((w2.setCell ⟨w.heap.size,us.length*2,none⟩ (.slice j r.n c2)).setCell ⟨w.heap.size,us.length*2+1,none⟩ (.string r.s)).heap.size by
    have:=d.size;have:=Aa q;simp;omega)
   have J:=Ab (show(us++[(⟨j,r.n,c2,r.xs,r.s⟩:RV)]).length=us.length+1 by rw[List.length_append];rfl);clear I o R O d N u Q C D S hZ W E HU V q K;generalize (Ec rs.length us).getD us.length .dflt=zz at*;go_wp2;go_roundw
   case rel=>exact⟨us++[⟨j,r.n,c2,r.xs,r.s⟩],by rw[Aa J];omega,by rw[Aa J];go_num,HS,ac,aa,Z,ad⟩
   case measure=>simp[intOf];omega
  ·have T:us.length=rs.length:=by omega
   rw[kJ T]at W;rw[T,List.take_length]at V;go_wp2;go_ret;exact⟨_,_,us,rfl,Aa W,(Aa HU).mono (Nat.le_succ _),Aa V,Aa E⟩
def CZ(L:List (List Nat×ByteArray)):Nat:=(keepL (L.map Prod.fst) L.length).length
theorem nR(rs:List RV):vecsL rs=(rs.map core).map Prod.fst:=by
 unfold vecsL;rw[List.map_map];rfl
theorem LU(rs:List RV):rankN rs=CZ (rs.map core):=by
 unfold rankN CZ;rw[nR,List.length_map]
theorem Aw.step{w0:World}(h:Aw w g B k z m v rs ov)(a:Below B w0 w)(ht:Tu (C1 g v) w w'):Below B w0 w':=a.trans (h.keeps ht h.lob)
theorem jh(j:Ae w us)(d:us.map core=rs.map core)(f:Ae w' rs)(h:Af rs):Af us:=
 Tl j d fun x l=>by
  obtain⟨r,e,rfl⟩:=List.mem_map.1 l;obtain⟨i,b,rfl⟩:=List.mem_iff_getElem.1 e;have c:=(f _ (List.getElem_mem b)).1.1;have a:=h i;rw[List.getD_eq_getElem?_getD,List.getElem?_eq_getElem b]at a;simp only[Option.getD_some]at a;exact⟨by show(rs[i]).xs.length<=10;rw[c];exact a.1,a.2⟩
theorem IL.at{a:Option Addr}{c:Nat}(d:Ak w' B (.slice a n c) us)(b:AG w' B us)(e:us.map core=rs.map core)(f:Ae w rs)(h:Af rs):Aj w' a n us/\Ae w' us/\Af us/\n=us.length/\n<=c:=
 ⟨(d.at' b.rows).1,b.rows,jh b.rows e f h,(d.at' b.rows).2.1,(d.at' b.rows).2.2.1⟩
theorem Wq(L:List (List Nat×ByteArray)):CZ L<=L.length:=GM _ _
theorem Aw.mono{B':Nat}(h:Aw w g B k z m v rs ov)(a:B'<=B):Aw w g B' k z m v rs ov:=
 ⟨h.blk,Nat.le_trans a h.lo,h.own.mono a,h.rows.mono a,h.le,h.most,h.short⟩
end Go.Proofs.YtfpmnekaockodaaGreatDoor
