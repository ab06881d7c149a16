/-
  Laws that the proof stands on.
-/
import Derived.Test.YtfpfcnfmigaphaaGreatDoorU23
import Derived.Shelf.Sort.Plain
import Derived.Shelf.Slices.In.SortNone
import Derived.Sort.OwnSortedInts
namespace Go.Proofs.YtfpfcnfmigaphaaGreatDoor
open Go.RowKit Go.Sort Go.Shelf
set_option linter.unusedVariables false
set_option linter.unusedSimpArgs false
set_option maxRecDepth 4000
set_option maxHeartbeats 8000000
variable {L:List Int}{xs:List Nat}{k d g:Nat}{sv:Value}{w:World}
theorem iN(xs:List Int)(k:Nat)(a:k<xs.length):xs.take (k+1)=xs.take k++[xs.getD k 0]:=by
 rw[List.take_succ_eq_append_getElem a];simp[List.getD_eq_getElem?_getD,List.getElem?_eq_getElem a]
theorem eH(a:Option Addr)(n c:Nat)(xs:List Int)(x:Int)(w:World)(h:IntzAt w a n xs)(A:n<=1048576):
  Calls Tryz.prog 334 #[.slice a n c,.int .i64 x] w fun e w'=> ∃r:Int,e=.returned (.int .i64 r)/\decide (0<=r)=decide (x∈xs)/\w'=w:=by
 obtain rfl:=h.1;have v:=Ab h;clear h;go_enter Tryz.func334,Tryz.ntmps334;go_wp2;go_loop [8] (fun i=> ∃k:Nat,k<=xs.length/\i=.int .i64 k/\Hid (x∉xs.take k)) (fun i=>xs.length-(intOf i).toNat)
 case atStart=>exact⟨0,Nat.zero_le _,rfl,Ab (by rw[List.take_zero];exact List.not_mem_nil)⟩
 case round=>
  obtain⟨k,z,rfl,l⟩:=hrel;by_cases f:k<xs.length
  ·obtain⟨b,off,rfl,j⟩:=(Aa v).at f
   have m:=j k f;have q:(k:Int)<(xs.length:Int):=by omega
   have u:=Ab (iN xs k f);have s:=Ab (show xs.getD k 0∈xs from by rw[List.getD_eq_getElem?_getD,List.getElem?_eq_getElem f];exact List.getElem_mem f);clear j;generalize xs.getD k 0=y at*;by_cases p:x=y
   ·subst p
    go_wp2;go_ret;exact⟨_,rfl,⟨fun _=>Aa s,fun _=>by omega⟩,rfl⟩
   ·go_wp2
    go_round
    case rel=>exact⟨k+1,by omega,by go_num,Ab (by rw[Aa u,List.mem_append,List.mem_singleton];exact fun h=>h.elim (Aa l) p)⟩
    case measure=>simp[intOf];omega
  ·have o:xs.take k=xs:=List.take_of_length_le (by omega)
   rw[o]at l;go_wp2;go_ret;exact⟨_,rfl,⟨fun h=>absurd h (by decide),fun h=>absurd h (Aa l)⟩,rfl⟩
theorem bK(a:Option Addr)(n c:Nat)(xs:List Int)(x:Int)(w:World)(h:IntzAt w a n xs)(i:n<=1048576):
  Calls Tryz.prog 323 #[.slice a n c,.int .i64 x] w fun e w'=>e=.returned (.bool (decide (x∈xs)))/\w'=w:=by
 have f:=Ab (eH a n c xs x w h i);clear h;go_enter Tryz.func323,Tryz.ntmps323;go_wp2_with (go_at_call 334;refine(Aa f).mono ?_;rintro e w1 ⟨r,rfl,j,b⟩;obtain rfl:=b.symm;clear b f);go_ret;exact⟨rfl,rfl⟩
theorem Rb(a:Addr)(n c:Nat)(xs:List Int)(w:World)(h:IntzAt w (some a) n xs)(I:n<=1048576):
  Calls Tryz.prog 57 #[.slice (some a) n c] w fun e w'=> ∃v,e=.returned v/\Am w' w.heap.size v xs/\Below w.heap.size w w':=by
 have s:=fun wx=>Lib.run_eql_slice_nil (P:=Tryz.prog) wx 83 3 (some a) n c 0 0 Tryz.underlying83;obtain⟨H,C,p,q,r⟩:=info_parts NN;go_enter Tryz.func57,Tryz.ntmps57;go_wp2_with (first|(at_builtin;refine wpList_append_own _ rfl (.tmp 5) (.tmp 6) 83 rfl w.heap.size 3 H (.int .i64 0) 1 8 Tryz.underlying83 C p q r rfl (by decide) _ _ _ rfl (World.ownsRow_lit _ #[] 0 (Nat.le_refl _) (by decide) rfl) a n c (cellsZ xs) rfl ?c0 ?c1 ?c2 ?c3 ?c4 ?c5 ?_))
 case c0=>rw[FN,h.1,Nat.mul_one]
 case c1=>
  have A:=h.below ((Below.refl _ _).alloc (Nat.le_refl _) (.cells #[] 3));intro j u o;obtain⟨b,off,e,B⟩:=A.at (i:=j) (by have:=(List.getElem?_eq_some_iff.1 o).1;rw[FN,h.1]at this;exact this);simp only[Option.some.injEq]at e;subst e;have m:j<n:=by have:=(List.getElem?_eq_some_iff.1 o).1;rw[FN,h.1]at this;exact this
  rw[GA xs j (by rw[h.1];exact m)]at o;rw[show(⟨b,off,none⟩:Addr).add j=⟨b,off+j,none⟩ by unfold Addr.add;split<;>simp_all,B j m];exact o
 case c2=>intro u G;obtain⟨x,_,rfl⟩:=List.mem_map.1 G;rfl
 case c3=>unfold maxLen;omega
 case c4=>omega
 case c5=>simp
 intro v' w1 l f _;have y:=Ab (show Below w.heap.size w w1 from((Below.refl _ _).alloc (Nat.le_refl _) _).grown f (by simp) (fun k D=>by simp[Value.ownBlock]at D;omega));have z:=Ab (show Am w1 w.heap.size v' xs from by have E:=h.1;show w1.ownsRow _ _ _ _ xs.length _;rw[E];simpa using l);clear l f;go_wp2;go_ret;exact⟨_,rfl,Aa z,Aa y⟩
theorem ff(b:Int){n:Nat}(a:0<n):((placeN b n:Nat):Int)=(b.tmod n+n)%n:=by
 rw[(Vq b a).1];have c: -(n:Int)<b.tmod n:=by
  have:=Int.lt_tmod_of_pos b (show(0:Int)<n by omega);omega
 exact Int.tmod_eq_emod_of_nonneg (by omega)
theorem eu(b:Int)(n:Nat)(c:0<n)(l:n<=1048576)(j: -9223372036854775808<=b/\b<=9223372036854775807)(w:World):
  Calls Tryz.prog 255 #[.int .i64 b,.int .i64 (n:Int)] w fun e w'=>e=.returned (.int .i64 ((placeN b n:Nat):Int))/\w'=w:=by
 have f:¬((n:Int)=0):=by omega
 have a:=ff b c;have h:(b.tmod n)<n:=Int.tmod_lt_of_pos _ (by omega);have i: -(n:Int)<b.tmod n:=by
  have:=Int.lt_tmod_of_pos b (show(0:Int)<n by omega);omega
 go_enter Tryz.func255,Tryz.ntmps255;go_wp2;go_ret;exact⟨congrArg (fun x=>Ending.returned (.int .i64 x)) a.symm,rfl⟩
theorem jV(d:Nat)(t:Int)(a:d<=1048576)(ht: -1099511627776<=t/\t<=1099511627776):IntKind.u64.wrap (max (d:Int) t-IntKind.u64.wrap (min (d:Int) t))=((distN d t:Nat):Int):=by
 rw[IntKind.wrap_u64,IntKind.wrap_u64,Rd];unfold DQ;split<;>omega
theorem QS(d:Nat)(t:Int)(c:d<=1048576)(ht: -1099511627776<=t/\t<=1099511627776)(w:World):
  Calls Tryz.prog 296 #[.int .i64 (d:Int),.int .i64 t] w fun e w'=>e=.returned (.int .u64 ((distN d t:Nat):Int))/\w'=w:=by
 have a:=Ko (d:Int) t;have b:=Kp (d:Int) t;go_enter Tryz.func296,Tryz.ntmps296;go_wp2;go_ret;exact⟨congrArg (fun x=>Ending.returned (.int .u64 x)) (jV d t c ht),rfl⟩
def E9(L:List Int)(k:Nat)(sv:Value)(d:Nat):List Value:=cellsZ L++[.int .i64 (k:Int),sv,.int .i64 (d:Int)]
theorem VD(b:L.length=32){i:Nat}(a:i<32):(E9 L k sv d)[i]? =some (.int .i64 (L.getD i 0)):=by
 unfold E9;rw[List.getElem?_append_left (by rw[FN];omega),GA L i (by omega)]
theorem Pq(a:L.length=32)(j:Nat):(E9 L k sv d)[32+j]? =[Value.int .i64 (k:Int),sv,.int .i64 (d:Int)][j]? :=by
 unfold E9;rw[List.getElem?_append_right (by rw[FN];omega),FN,a,Nat.add_sub_cancel_left]
theorem Xq(b:L.length=32){i:Nat}(a:i<32)(x:Int):(E9 L k sv d).set i (.int .i64 x)=E9 (L.set i x) k sv d:=by
 unfold E9;rw[List.set_append_left _ _ (by rw[FN];omega),ND]
theorem Oz(a:L.length=32)(j:Nat)(x:Value):(E9 L k sv d).set (32+j) x=cellsZ L++[Value.int .i64 (k:Int),sv,.int .i64 (d:Int)].set j x:=by
 unfold E9;rw[List.set_append_right _ _ (by rw[FN];omega),FN,a,Nat.add_sub_cancel_left]
structure CcAt(w:World)(g:Nat)(L:List Int)(k:Nat)(sv:Value)(xs:List Nat)(d:Nat):Prop where
 blk:BkA 344 w g (E9 L k sv d)
 len:L.length=32
 own:Own w (g+1) sv xs
theorem CcAt.below{w':World}(h:CcAt w g L k sv xs d)(a:Below w.heap.size w w'):CcAt w' g L k sv xs d:=⟨h.blk.below a,h.len,h.own.below a⟩
theorem CcAt.at(h:CcAt w g L k sv xs d):w.cell? ⟨g,32,none⟩=some (.int .i64 (k:Int))/\w.cell? ⟨g,33,none⟩=some sv/\w.cell? ⟨g,34,none⟩=some (.int .i64 (d:Int)):=
 ⟨h.blk.at 32 (Pq h.len 0),h.blk.at 33 (Pq h.len 1),h.blk.at 34 (Pq h.len 2)⟩
theorem CcAt.ints(h:CcAt w g L k sv xs d)(b:k<=32):IntzAt w (some ⟨g,0,none⟩) k (L.take k):=by
 refine⟨by rw[List.length_take,h.len];omega,.inr ⟨g,0,rfl,fun i a=>?_⟩⟩;rw[Nat.zero_add,h.blk.at i (VD h.len (by omega)),List.getD_eq_getElem?_getD,List.getD_eq_getElem?_getD,List.getElem?_take,if_pos a]
theorem CcAt.new(w:World):CcAt (w.alloc (.cells (E9 (List.replicate 32 0) 0 (.slice none 0 0) 0).toArray 344)) w.heap.size (List.replicate 32 0) 0 (.slice none 0 0) [] 0:=
 ⟨AV _ _ _,by simp,Own.nil _ _⟩
theorem CcAt.place(h:CcAt w g L k sv xs d){i:Nat}(a:i<32)(x:Int):CcAt (w.setCell ⟨g,i,none⟩ (.int .i64 x)) g (L.set i x) k sv xs d:=by
 refine⟨?_,by rw[List.length_set];exact h.len,h.own.other _ _ (Nat.lt_succ_self _)⟩;have:=h.blk.set i (.int .i64 x);rwa[Xq h.len a]at this
theorem CcAt.count(h:CcAt w g L k sv xs d)(a:Nat):CcAt (w.setCell ⟨g,32,none⟩ (.int .i64 (a:Int))) g L a sv xs d:=by
 refine⟨?_,h.len,h.own.other _ _ (Nat.lt_succ_self _)⟩;have:=h.blk.set 32 (.int .i64 (a:Int));rwa[show(32:Nat)=32+0 from rfl,Oz h.len 0]at this
theorem CcAt.sum(h:CcAt w g L k sv xs d){u:Value}{a:List Nat}(b:Own w (g+1) u a):CcAt (w.setCell ⟨g,33,none⟩ u) g L k u a d:=by
 refine⟨?_,h.len,b.other _ _ (Nat.lt_succ_self _)⟩;have:=h.blk.set 33 u;rwa[show(33:Nat)=32+1 from rfl,Oz h.len 1]at this
theorem CcAt.deg(h:CcAt w g L k sv xs d)(a:Nat):CcAt (w.setCell ⟨g,34,none⟩ (.int .i64 (a:Int))) g L k sv xs a:=by
 refine⟨?_,h.len,h.own.other _ _ (Nat.lt_succ_self _)⟩;have:=h.blk.set 34 (.int .i64 (a:Int));rwa[show(34:Nat)=32+2 from rfl,Oz h.len 2]at this
theorem Yr(g:Nat)(L:List Int)(k:Nat)(sv:Value)(xs:List Nat)(d:Nat)(x:Int)(w:World)(h:CcAt w g L k sv xs d)(n:k<=32):
  Calls Tryz.prog 297 #[.pointer (some ⟨g,0,none⟩),.int .i64 x] w fun e w'=>e=.returned (.bool (decide (x∈L.take k)))/\Below w.heap.size w w':=by
 have o:(k:Int)<=32:=by omega
 have p:=cell_regrown h.at.1;have j:=Cr (W:=w) (fun w' m=>RB (bK (some ⟨g,0,none⟩) k 32 (L.take k) x w' ((h.below m).ints n) (by omega)));generalize decide (x∈L.take k)=b at*;clear h;go_enter Tryz.func297,Tryz.ntmps297;go_wp2_with fail;refine wp_region_quiet_below (by kernel_rfl) (by kernel_rfl) ?_
 repeat (with_reducible refine wpQuiet_step (fun K c=>?_);go_simp;first|(with_reducible refine c _ ?_;clear c K)|(apply Exists.intro;apply And.intro;(intro _;first|(go_at_call 323;exact j _ _));with_reducible refine c _ ?_;clear c K))
 refine wpQuiet_nil ?_;intro _ f;obtain⟨⟨l,i⟩,a⟩:=f;subst a;go_wp2;go_ret;exact⟨rfl,below_regrown _ l i⟩
theorem cJ(g:Nat)(L:List Int)(k:Nat)(sv:Value)(xs:List Nat)(a:Option Addr)(m c:Nat)(b:List Nat)(w:World)(h:CcAt w g L k sv xs (cnt xs))(x:RowAt w a m b)(hx:xs.length<=10)(hm:m<=10):
  Calls Tryz.prog 298 #[.pointer (some ⟨g,0,none⟩),.slice a m c] w fun e w'=>e=.returned (.int .i64 ((cnt (xorL xs b):Nat):Int))/\Below w.heap.size w w':=by
 obtain rfl:=x.1;obtain⟨G,sc,rfl,hs⟩:=h.own.row;have ab:=h.own.cap;have u:=IJ xs.length b.length;have T:=Th G xs.length sc (min xs.length b.length) (by omega);obtain⟨ae,s⟩:=nU xs b;have S:min xs.length b.length<=xs.length:=Nat.min_le_left _ _;have V:=List.length_take_le (min xs.length b.length) xs;have n:=hs.take S;generalize min xs.length b.length=j at*;have k1:=cell_regrown h.at.2.1;have Hh:=Ab h;have HR:=Ab x;have ac:=Ju xs;have ad:=Ju (xorL (xs.take j) b);have aa:=BV (xs.take j) b;have X:(xs.take j).length=j:=n.1;have P:=Ab (fun wx (h1:RowAt wx G j (xs.take j)) (h2:RowAt wx a b.length b)=>IL G j sc (xs.take j) a b.length c b wx h1 h2 (by omega) (by omega));generalize xorL (xs.take j) b=H at*;generalize xs.take j=ts at*;have B:H.length<=10:=by omega
 have HT:=Ab n;have I:=Ab s;generalize cnt (xorL xs b)=R at*;generalize b.length=ym at*;generalize xs.length=xm at*;clear s V aa X;clear h x hs n;go_enter Tryz.func298,Tryz.ntmps298;go_wp2_with fail;refine wp_region_quiet_below (by kernel_rfl) (by kernel_rfl) ?_
 repeat (with_reducible refine wpQuiet_step (fun K hK=>?_);go_simp;first|(with_reducible refine hK _ ?_;clear hK K))
 refine wpQuiet_nil ?_;intro _ Y;obtain⟨⟨dq,C⟩,z⟩:=Y;subst z;have q:=below_regrown w dq C;generalize grow (redrawn w dq) C=W at*;have l:=(Aa Hh).below q;have o:=(Aa HT).below q;have A:=(Aa HR).below q;have HB:=Ab q;have J:=Ab (fun wx (f:Below W.heap.size W wx)=>Gh G j sc ts wx (o.below f) (by omega));have Q:=Ab (fun wx (f:Below W.heap.size W wx)=>Aa P wx (o.below f) (A.below f));have N:=Ab (fun wx (f:Below W.heap.size W wx)=>(l.below f).at.2.2);have q0:=l.at.2.2;clear l o A q Hh HT HR k1 T u;go_wp2_with fail
 go_region_held3 (fun w'=>w'.cell? ⟨g,34,none⟩=some (.int .i64 (cnt xs:Int))) (go_keep) (first
  |(go_at_call 299;refine(Aa Q _ (by first|exact Aa p|exact(Below.refl _ _).drew)).mono ?_;rintro e w1 ⟨v1,rfl,v,r⟩;obtain⟨a2,m2,c2,rfl,y,af⟩:∃a m c,v1=Value.slice a m c/\RowAt w1 a m H/\m<=10:=(by obtain⟨a,c,e,x⟩:=v.row;exact⟨a,_,c,e,x,B⟩);have D:=Ab (show Below W.heap.size W w1 from Ad (by first|exact Aa p|exact(Below.refl _ _).drew) r);have O:=Ab y;have q0:=Aa N w1 (Aa D);clear v r y)
  |(go_at_call 181;refine(Gh a2 m2 c2 H _ (Aa O) (by omega)).mono ?_;rintro e w1 ⟨rfl,i⟩;have E:=Ab (show Below W.heap.size W w1 from by rw[i];first|exact Aa p|exact Aa D);have q0:=Aa N w1 (Aa E);clear i)
  |(go_at_call 181;refine(Aa J _ (by first|exact Aa E|exact Aa D|exact(Below.refl _ _).drew)).mono ?_;rintro e w1 ⟨rfl,i⟩;have p:=Ab (show Below W.heap.size W w1 from by rw[i];first|exact Aa E|exact Aa D|exact(Below.refl _ _).drew);have q0:=Aa N w1 (Aa p);clear i))
 have Z:IntKind.i64.wrap (IntKind.i64.wrap (((cnt xs:Nat):Int)-((cnt ts:Nat):Int))+((cnt H:Nat):Int))=((R:Nat):Int):=by
  have h2:=Aa I;rw[IntKind.wrap_i64,IntKind.wrap_i64];omega
 rw[Z];have HD:Hid (Below W.heap.size W w1):=by first|exact E|exact p
 go_wp2;go_ret;exact⟨rfl,Ad (Aa HB) (Aa HD)⟩
theorem nJ(W:World)(L:List Int)(k:Nat)(sv:Value)(xs:List Nat)(d:Nat)(p:Nat)(a:Option Addr)(m c:Nat)(o:List Nat)(w:World)(h:CcAt w W.heap.size L k sv xs d)(I:Below W.heap.size W w)(E:RowAt W a m o)(J:k<32)(hx:xs.length<=10)(hm:m<=10):
  Calls Tryz.prog 257 #[.pointer (some ⟨W.heap.size,0,none⟩),.int .i64 (p:Int),.slice a m c] w fun e w'=>e=.returned (.tuple #[])/\(∃u,CcAt w' W.heap.size (L.set k (p:Int)) (k+1) u (xorL xs o) (cnt (xorL xs o)))/\Below W.heap.size W w':=by
 obtain rfl:=E.1;have T:(k:Int)<32:=by omega
 obtain⟨Z,sc,rfl,_⟩:=h.own.row;obtain⟨N,O,P⟩:=h.at;have f0:=h.blk.frz k;have Y:=h.blk.at k (VD h.len J);have H:=Ab h;have G:=Ab I;have R:=Ab E;clear h E I;go_enter Tryz.func257,Tryz.ntmps257;go_wp2_with fail;go_region;have l:=((Aa H).place J (p:Int)).below (Below.refl _ _).drew;have s:=((Aa G).setCell (p:=⟨W.heap.size,k,none⟩) (Nat.le_refl _) (.int .i64 (p:Int))).trans ((Below.refl _ _).drew);generalize (w.setCell ⟨W.heap.size,k,none⟩ (.int .i64 (p:Int))).drew=w1 at*;clear N O P f0 Y H G;have f1:=l.blk.frz 32;obtain⟨N,O,P⟩:=l.at;obtain⟨j,hj,x⟩:∃j:Nat,(k:Int)+1=(j:Int)/\j=k+1:=⟨k+1,by omega,rfl⟩;have Q:=Ab x;have z:=Ab (l.count j);have i:=Ab (s.setCell (p:=⟨W.heap.size,32,none⟩) (Nat.le_refl _) (.int .i64 (j:Int)));obtain⟨_,r1,_⟩:=(l.count j).at;have v:=(l.count j).blk.lt;have f3:=fun(wx:World) (D:Below (w1.setCell ⟨W.heap.size,32,none⟩ (.int .i64 (j:Int))).heap.size (w1.setCell ⟨W.heap.size,32,none⟩ (.int .i64 (j:Int))) wx)=>((l.count j).below D).blk.frz 33;clear l s x;generalize V:w1.setCell ⟨W.heap.size,32,none⟩ (.int .i64 (j:Int))=w2 at*;have q:=Ab (IL Z xs.length sc xs a o.length c o w2 (by obtain⟨_,_,e,f⟩:=(Aa z).own.row;simp only[Value.slice.injEq,true_and]at e;obtain⟨rfl,rfl⟩:=e;exact f) ((Aa R).below (Aa i)) (by omega) (by omega));have X:(xorL xs o).length<=10:=by rw[BV];omega
 have C:=Ab f3;clear f3
 go_wp2_with (first
  |(go_at_call 299;refine(Aa q).mono ?_;rintro e w3 ⟨v3,rfl,n,b⟩;obtain⟨a3,K,c3,rfl⟩:∃a m c,v3=Value.slice a m c:=(by obtain⟨a,c,e,_⟩:=n.row;exact⟨a,_,c,e⟩);have r:=((Aa z).below b).sum (n.mono (show W.heap.size+1<=_ from v));have B:=Ab (((Aa i).trans (b.mono (Nat.le_of_lt v))).setCell (p:=⟨W.heap.size,33,none⟩) (Nat.le_refl _) (.slice a3 K c3));have f3:=Aa C w3 b;have s1:=((Aa z).below b).at.2.1;have s2:=r.at.2.1;have s3:=r.at.2.2;have f4:=r.blk.frz 34;have A:=Ab r;clear n b r q z i)
  |(go_at_call 181;refine(Gh a3 K c3 (xorL xs o) _ (by obtain⟨_,_,e,f⟩:=(Aa A).own.row;simp only[Value.slice.injEq]at e;obtain⟨rfl,rfl,rfl⟩:=e;exact f) (by have S:=(Aa A).own.row;obtain⟨_,_,e,f⟩:=S;simp only[Value.slice.injEq]at e;omega)).mono ?_;rintro e w5 ⟨rfl,y⟩;obtain rfl:=y.symm;clear y))
 go_end0;obtain rfl:=Aa Q;exact⟨rfl,⟨_,(Aa A).deg _⟩,(Aa B).setCell (p:=⟨W.heap.size,34,none⟩) (Nat.le_refl _) _⟩
def KR:Option Nat->Int
 |none=> -1
 |some b=>b
def AU(rs:List RV):List (List Nat):=rs.map fun r=>r.xs
theorem LO(rs:List RV):(AU rs).length=rs.length:=by simp[AU]
theorem LN{rs:List RV}{i:Nat}(a:i<rs.length):(AU rs).getD i []=(rs.getD i .dflt).xs:=by
 unfold AU;rw[List.getD_eq_getElem?_getD,List.getElem?_map,List.getElem?_eq_getElem a,List.getD_eq_getElem?_getD,List.getElem?_eq_getElem a];rfl
theorem Vi(V:List (List Nat))(ch:List Bool)(v:List Nat)(t:Int):∀n,0<=(BH V ch v t n).2
 |0=>NV _ _
 |n+1=>by
  by_cases h:F0 V ch v t n (BH V ch v t n).2
  ·rw[Np h];exact NV _ _
  ·rw[Of h];exact Vi V ch v t n
theorem jJ(g:Nat)(L:List Int)(k:Nat)(sv:Value)(xs:List Nat)(a:Option Addr)(n c:Nat)(rs:List RV)(t:Int)(ch:List Bool)(ps:List Nat)(w:World)(h:CcAt w g L k sv xs (cnt xs))(hr:Ak w a n rs)(hs:Af rs)(hn:n<=300)(hx:xs.length<=10)(hk:k<=32)(hC:Fa n ch ps)(hL:L.take k=A5 ps)(ht: -1099511627776<=t/\t<=1099511627776):
  Calls Tryz.prog 256 #[.pointer (some ⟨g,0,none⟩),.slice a n c,.int .i64 t] w fun e w'=>e=.returned (.int .i64 (if k=32 then -1 else KR (BH (AU rs) ch xs t n).1))/\Below w.heap.size w w':=by
 obtain rfl:=hr.1;obtain⟨q0,q1,q2⟩:=h.at;by_cases aa:k=32
 ·subst aa
  rw[if_pos rfl];have aq:w.cell? ⟨g,32,none⟩=some (.int .i64 32):=q0;clear q0 h hr hC hL;go_enter Tryz.func256,Tryz.ntmps256;go_wp2;go_ret;exact⟨rfl,Below.refl _ _⟩
 ·rw[if_neg aa]
  have an:¬((k:Int)=32):=by omega
  have ag:cnt xs<=1048576:=by have:=Ju xs;omega
  have W:=Ab (QS (cnt xs) t ag ht w);have Hh:=Ab h;have HR:=Ab hr;have HS:=Ab hs;have ac:=Ab (show∀i,i<rs.length->decide ((i:Int)∈L.take k)=ch.getD i false from fun i hi=>by rw[hL,mU,hC.mem i hi]);have X:=Ab (show(distN (cnt xs) t:Int)=((BH (AU rs) ch xs t 0).2.toNat:Int) from rfl);generalize hd:cnt xs=d at*;clear h hr hs hC hL;go_enter Tryz.func256,Tryz.ntmps256;go_wp2_with (go_at_call 296;refine(Aa W).mono ?_;rintro e w1 ⟨rfl,ab⟩;obtain rfl:=ab.symm;clear ab W);go_loopw [7,8,26] (fun b l i wr=> ∃m:Nat,m<=rs.length/\i=.int .i64 m/\b=.int .i64 (KR (BH (AU rs) ch xs t m).1)/\l=.int .u64 ((BH (AU rs) ch xs t m).2.toNat:Int)/\Hid (Below w.heap.size w wr)) (fun _ _ i _=>rs.length-(intOf i).toNat)
  case atStart=>exact⟨0,Nat.zero_le _,rfl,rfl,by rw[Aa X],Ab (Below.refl _ _)⟩
  case round=>
   obtain⟨m,hm,rfl,rfl,rfl,HB⟩:=hrel;clear X;by_cases C:m<rs.length
   ·have hR:=(Aa HR).below (Aa HB)
    obtain⟨b,off,rfl,Y⟩:=hR.at C;obtain⟨am,aj⟩:=Y m C;have D:=hR.2.1 m C;have ai:=(Aa HS m).1;have ak:(m:Int)<(rs.length:Int):=by omega
    have hH:=(Aa Hh).below (Aa HB);have O:Fz (AU rs) xs m=cnt (xorL xs (rs.getD m .dflt).xs):=by unfold Fz;rw[LN C]
    have ap:=D.1;have B:=Ab (fun K=>Np (V:=AU rs) (ch:=ch) (v:=xs) (t:=t) (i:=m) K);have q:=Ab (fun K=>Of (V:=AU rs) (ch:=ch) (v:=xs) (t:=t) (i:=m) K);have ao:=Vi (AU rs) ch xs t m;have u:=Aa ac m C;clear Y hR;generalize rs.getD m .dflt=r at*;have H:Below wr.heap.size wr (wr.alloc (.cells #[.slice r.a r.n r.c,.string r.s] 57)):=(Below.refl _ _).alloc (Nat.le_refl _) _;have f:=Gl wr (.slice r.a r.n r.c) (.string r.s);generalize al:wr.alloc (.cells #[.slice r.a r.n r.c,.string r.s] 57)=w2 at*;have S:=hH.below H;have x:=Ab (Yr g L k sv xs d (m:Int) w2 S hk);have E:=Ab (Ad (Aa HB) H);have R:=Ab (fun wx (I:Below w2.heap.size w2 wx)=>cJ g L k sv xs r.a r.n r.c r.xs wx (hd▸S.below I) ((D.below H).below I) hx ai);have P:=Ab (fun wx (I:Below w2.heap.size w2 wx)=>f.below I);have ah:cnt (xorL xs r.xs)<=1048576:=by have N:=Ju (xorL xs r.xs);rw[BV]at N;omega
    have T:=Ab O;clear hH S D H f O;generalize cnt (xorL xs r.xs)=G at*;have Q:=Ab (fun wx=>QS G t ah ht wx);cases J:ch.getD m false
    ·rw[J]at u
     rw[u]at x
     have y:=Ab (show F0 (AU rs) ch xs t m (BH (AU rs) ch xs t m).2↔0<G/\distN G t<(BH (AU rs) ch xs t m).2.toNat from by
      unfold F0;rw[Aa T,J];have h5:=Rd G t;constructor
      ·rintro⟨_,N,h2⟩;exact⟨N,by omega⟩
      ·rintro⟨N,h2⟩;exact⟨rfl,N,by omega⟩)
     have ad:=Ab (show(DQ (Fz (AU rs) xs m) t).toNat=distN G t from by rw[Aa T];rfl);generalize hZ:BH (AU rs) ch xs t m=Z at*;generalize distN G t=f1 at*;by_cases N:0<G
     ·have ae:(0:Int)<(G:Int):=by omega
      by_cases h2:f1<Z.2.toNat
      ·have af:(f1:Int)<(Z.2.toNat:Int):=by omega
       have A:=Ab (Aa B ((Aa y).2 ⟨N,h2⟩));clear B q y
       go_wp2_with (first
        |(go_at_call 297;refine(Aa x).mono ?_;rintro e w3 ⟨rfl,f⟩;have j:=Ab f;obtain⟨x0,x1⟩:=Aa P w3 f;clear f)
        |(go_at_call 298;refine(Aa R _ (Aa j)).mono ?_;rintro e w4 ⟨rfl,o⟩;have z:=Ab (Ad (Aa j) o);clear o)
        |(go_at_call 296;refine(Aa Q _).mono ?_;rintro e w5 ⟨rfl,p⟩;obtain rfl:=p.symm;clear p))
       go_roundw
       case rel=>exact⟨m+1,by omega,by go_num,by rw[Aa A];rfl,by rw[Aa A];show _=Value.int .u64 (((DQ (Fz (AU rs) xs m) t).toNat:Nat):Int);rw[Aa ad],Ab (Ad (Aa E) (Aa z))⟩
       case measure=>simp[intOf];omega
      ·have af:¬(f1:Int)<(Z.2.toNat:Int):=by omega
       have A:=Ab (Aa q fun K=>h2 ((Aa y).1 K).2);clear B q y
       go_wp2_with (first
        |(go_at_call 297;refine(Aa x).mono ?_;rintro e w3 ⟨rfl,f⟩;have j:=Ab f;obtain⟨x0,x1⟩:=Aa P w3 f;clear f)
        |(go_at_call 298;refine(Aa R _ (Aa j)).mono ?_;rintro e w4 ⟨rfl,o⟩;have z:=Ab (Ad (Aa j) o);clear o)
        |(go_at_call 296;refine(Aa Q _).mono ?_;rintro e w5 ⟨rfl,p⟩;obtain rfl:=p.symm;clear p))
       go_roundw
       case rel=>exact⟨m+1,by omega,by go_num,by rw[Aa A],by rw[Aa A,Int.ofNat_toNat],Ab (Ad (Aa E) (Aa z))⟩
       case measure=>simp[intOf];omega
     ·have ae:¬(0:Int)<(G:Int):=by omega
      have A:=Ab (Aa q fun K=>N ((Aa y).1 K).1);clear B q y
      go_wp2_with (first
       |(go_at_call 297;refine(Aa x).mono ?_;rintro e w3 ⟨rfl,f⟩;have j:=Ab f;obtain⟨x0,x1⟩:=Aa P w3 f;clear f)
       |(go_at_call 298;refine(Aa R _ (Aa j)).mono ?_;rintro e w4 ⟨rfl,o⟩;have z:=Ab (Ad (Aa j) o);clear o)
       |(go_at_call 296;refine(Aa Q _).mono ?_;rintro e w5 ⟨rfl,p⟩;obtain rfl:=p.symm;clear p))
      go_roundw
      case rel=>exact⟨m+1,by omega,by go_num,by rw[Aa A],by rw[Aa A,Int.ofNat_toNat],Ab (Ad (Aa E) (Aa z))⟩
      case measure=>simp[intOf];omega
    ·rw[J]at u
     rw[u]at x;have A:=Ab (Aa q fun K=>absurd (J.symm.trans K.1) (by decide));clear B q
     go_wp2_with (first
      |(go_at_call 297;refine(Aa x).mono ?_;rintro e w3 ⟨rfl,f⟩;have j:=Ab f;clear f))
     go_roundw
     case rel=>exact⟨m+1,by omega,by go_num,by rw[Aa A],by rw[Aa A,Int.ofNat_toNat],Ab (Ad (Aa E) (Aa j))⟩
     case measure=>simp[intOf];omega
   ·obtain rfl:m=rs.length:=by omega
    go_wp2;go_ret;exact⟨rfl,Aa HB⟩
def aP:Ren:=⟨fun|125=>292|128=>312|129=>313|189=>252|215=>333|216=>320|257=>295|294=>314|295=>315|296=>316|297=>317|298=>318|299=>319|300=>321|301=>322|328=>328|329=>329|330=>330|331=>331|332=>332|343=>335|n=>n,fun|0=>0|3=>3|4=>4|5=>5|9=>9|28=>83|46=>264|51=>95|53=>69|131=>235|182=>401|183=>402|218=>409|222=>412|228=>415|229=>89|n=>n,fun|n=>n⟩
theorem UT:Lays.n189 Tryz.prog aP:={
 mixed:=by kernel_rfl
 f125:=Tryz.func292.trans (congrArg some (by kernel_rfl))
 f128:=Tryz.func312.trans (congrArg some (by kernel_rfl))
 f129:=Tryz.func313.trans (congrArg some (by kernel_rfl))
 f189:=Tryz.func252.trans (congrArg some (by kernel_rfl))
 f215:=Tryz.func333.trans (congrArg some (by kernel_rfl))
 f216:=Tryz.func320.trans (congrArg some (by kernel_rfl))
 f257:=Tryz.func295.trans (congrArg some (by kernel_rfl))
 f294:=Tryz.func314.trans (congrArg some (by kernel_rfl))
 f295:=Tryz.func315.trans (congrArg some (by kernel_rfl))
 f296:=Tryz.func316.trans (congrArg some (by kernel_rfl))
 f297:=Tryz.func317.trans (congrArg some (by kernel_rfl))
 f298:=Tryz.func318.trans (congrArg some (by kernel_rfl))
 f299:=Tryz.func319.trans (congrArg some (by kernel_rfl))
 f300:=Tryz.func321.trans (congrArg some (by kernel_rfl))
 f301:=Tryz.func322.trans (congrArg some (by kernel_rfl))
 f328:=Tryz.func328.trans (congrArg some (by kernel_rfl))
 f329:=Tryz.func329.trans (congrArg some (by kernel_rfl))
 f330:=Tryz.func330.trans (congrArg some (by kernel_rfl))
 f331:=Tryz.func331.trans (congrArg some (by kernel_rfl))
 f332:=Tryz.func332.trans (congrArg some (by kernel_rfl))
 f343:=Tryz.func335.trans (congrArg some (by kernel_rfl))
 t0:=Tryz.underlying0
 a0:=Tryz.isAgg0
 z0:=Tryz.sizeOf0
 v0:=Tryz.zeroValue0
 t3:=Tryz.underlying3
 a3:=Tryz.isAgg3
 z3:=Tryz.sizeOf3
 v3:=Tryz.zeroValue3
 t4:=Tryz.underlying4
 a4:=Tryz.isAgg4
 z4:=Tryz.sizeOf4
 v4:=Tryz.zeroValue4
 t5:=Tryz.underlying5
 a5:=Tryz.isAgg5
 z5:=Tryz.sizeOf5
 v5:=Tryz.zeroValue5
 t9:=Tryz.underlying9
 a9:=Tryz.isAgg9
 z9:=Tryz.sizeOf9
 v9:=Tryz.zeroValue9
 t28:=Tryz.underlying83
 a28:=Tryz.isAgg83
 z28:=Tryz.sizeOf83
 v28:=Tryz.zeroValue83
 t46:=Tryz.underlying264
 a46:=Tryz.isAgg264
 z46:=Tryz.sizeOf264
 v46:=Tryz.zeroValue264
 t51:=Tryz.underlying95
 a51:=Tryz.isAgg95
 z51:=Tryz.sizeOf95
 v51:=Tryz.zeroValue95
 t53:=Tryz.underlying69
 a53:=Tryz.isAgg69
 z53:=Tryz.sizeOf69
 v53:=Tryz.zeroValue69
 t131:=Tryz.underlying235
 a131:=Tryz.isAgg235
 z131:=Tryz.sizeOf235
 v131:=Tryz.zeroValue235
 t182:=Tryz.underlying401
 a182:=Tryz.isAgg401
 z182:=Tryz.sizeOf401
 v182:=Tryz.zeroValue401
 t183:=Tryz.underlying402
 a183:=Tryz.isAgg402
 z183:=Tryz.sizeOf402
 v183:=Tryz.zeroValue402
 t218:=Tryz.underlying409
 a218:=Tryz.isAgg409
 z218:=Tryz.sizeOf409
 v218:=Tryz.zeroValue409
 t222:=Tryz.underlying412
 a222:=Tryz.isAgg412
 z222:=Tryz.sizeOf412
 v222:=Tryz.zeroValue412
 t228:=Tryz.underlying415
 a228:=Tryz.isAgg415
 z228:=Tryz.sizeOf415
 v228:=Tryz.zeroValue415
 t229:=Tryz.underlying89
 a229:=Tryz.isAgg89
 z229:=Tryz.sizeOf89
 v229:=Tryz.zeroValue89}
theorem Ra(xs:List Int):cellsZ xs=xs.map (Value.int .i64):=rfl
theorem UW(B:Nat)(v:Value)(xs:List Int)(w:World)(h:Am w B v xs)(s:xs.length<=1048576):
  Calls Tryz.prog 252 #[v] w fun e w'=>e=.returned (.tuple #[])/\Am w' B v (xs.mergeSort fun x y=>decide (x<=y))/\w.grownBy w' v.ownBlock:=by
 have j:w.ownsRow B 3 1 v xs.length (cellsZ xs):=h;rcases j.2 with⟨rfl,r⟩|⟨g,cap,i,rfl,m,a,b,o,c,ht⟩
 ·obtain rfl:xs=[]:=List.eq_nil_of_length_eq_zero r
  refine(calls_of_every_depth fun D=>AnyS.slices_Sort_int_none_in UT D none 0 w).mono ?_;rintro e w' ⟨rfl,p⟩;obtain rfl:=p.symm;exact⟨rfl,by simpa using h,Hx _ _⟩
 ·have l:Holds (Value.int .i64) w g 0 xs.toArray:=holds_of_blockI a (by simpa [Ra]using ht)
  refine(Any.slices_Sort_int UT g 0 cap xs w l (Array.getElem?_eq_some_iff.1 a).1 (by omega)).mono ?_;rintro e w' ⟨rfl,q,os,rfl⟩;have f:(xs.mergeSort fun x y=>decide (x<=y)).length=xs.length:=by simp
  refine⟨rfl,?_,by simpa [Value.ownBlock]using grownBy_sortedI _⟩;show World.ownsRow _ B 3 1 _ (xs.mergeSort fun x y=>decide (x<=y)).length _;have:=ownsRow_sortedI (n:=q) (os:=os) f m a b o c;rw[f,Ra];exact this
end Go.Proofs.YtfpfcnfmigaphaaGreatDoor
