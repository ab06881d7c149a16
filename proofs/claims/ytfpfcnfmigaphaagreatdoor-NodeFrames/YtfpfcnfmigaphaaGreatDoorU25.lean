/-
  Laws that the proof stands on.
-/
import Derived.Test.YtfpfcnfmigaphaaGreatDoorU24
namespace Go.Proofs.YtfpfcnfmigaphaaGreatDoor
open Go.RowKit Go.Sort
set_option linter.unusedVariables false
set_option linter.unusedSimpArgs false
set_option maxRecDepth 4000
set_option maxHeartbeats 8000000
variable {t pl:Int}{L:List Int}{xs ps:List Nat}{rs:List RV}{p j d:Nat}
theorem fx(g:Nat)(L:List Int)(k:Nat)(N:Value)(xs:List Nat)(d:Nat)(w:World)(h:CcAt w g L k N xs d)(z:k<=32):
  Calls Tryz.prog 258 #[.pointer (some ⟨g,0,none⟩)] w fun e w'=> ∃v,e=.returned v/\Am w' w.heap.size v ((L.take k).mergeSort fun x y=>decide (x<=y))/\Below w.heap.size w w':=by
 have G:(k:Int)<=32:=by omega
 obtain⟨I,J,K⟩:=h.at;have H:(L.take k).length<=32:=by rw[List.length_take,h.len];omega
 have q:=Ab (fun wx (u:Below w.heap.size w wx)=>Rb ⟨g,0,none⟩ k 32 (L.take k) wx ((h.below u).ints z) (by omega));have D:=Ab (fun wx (u:Below w.heap.size w wx)=>(h.below u).at.1);clear h J K;generalize E:L.take k=T at*;clear E;go_enter Tryz.func258,Tryz.ntmps258;go_wp2_with fail
 go_region_held3 (fun w'=>w'.cell? ⟨g,32,none⟩=some (.int .i64 (k:Int))) (go_keep) (first
  |(go_at_call 57;refine(Aa q _ (Below.refl _ _).drew).mono ?_;rintro e w1 ⟨O,rfl,b,f⟩;obtain⟨B,C,c1,rfl⟩:∃a m c,O=Value.slice a m c:=(by obtain⟨a,c,e,_⟩:=b.ints;exact⟨a,_,c,e⟩);have n:=Ab (show Below w.heap.size w w1 from Ad (Below.refl _ _).drew f);have I:=Aa D w1 (Aa n);have A:=Ab (show Am w1 w.heap.size (.slice B C c1) T from b);clear b f))
 have s:=Ab (UW w.heap.size (.slice B C c1) T w1 (Aa A) (by omega));go_wp2_with (go_at_call 252;refine(Aa s).mono ?_;rintro e w2 ⟨rfl,l,i⟩;have r:=Ab l;have o:=Ab ((Aa n).trans (CP i (Aa n).size fun k z=>(World.ownsRow.lt (Aa A) k z).1));clear l i);go_ret;exact⟨_,rfl,Aa r,Aa o⟩
def Gv(rs:List RV)(t:Int)(p j:Nat)(L:List Int)(xs:List Nat)(d:Nat)(ps:List Nat)(pl:Int):Prop:=
 j<=32/\L.take j=A5 ps/\((j=0/\xs=[]/\ps=[]/\pl=(p:Int))\/
  (1<=j/\xs=(BA (AU rs) t p (j-1)).v/\d=cnt xs/\Fa rs.length (BA (AU rs) t p (j-1)).ch ps/\pl=if j=32 then -1 else KR (BH (AU rs) (BA (AU rs) t p (j-1)).ch xs t rs.length).1))
theorem Gv.go(h:Gv rs t p j L xs d ps pl)(hp:p<rs.length)(q:L.length=32)(c:0<=pl):
  ∃b:Nat,pl=(b:Int)/\b<rs.length/\j<32/\xorL xs (rs.getD b .dflt).xs=(BA (AU rs) t p j).v/\Fa rs.length (BA (AU rs) t p j).ch (ps++[b])/\(L.set j (b:Int)).take (j+1)=A5 (ps++[b]):=by
 obtain⟨u,n,o⟩:=h
 have l:∀b:Nat,j<32->(L.set j (b:Int)).take (j+1)=A5 (ps++[b]):=fun b g=>by
  have k:j<(L.set j (b:Int)).length:=by rw[List.length_set,q];exact g
  rw[List.take_succ_eq_append_getElem k,List.take_set_of_le (Nat.le_refl _),n,QM,List.getElem_set_self];rfl
 rcases o with⟨rfl,rfl,rfl,rfl⟩|⟨r,rfl,s,m,a⟩
 ·refine⟨p,rfl,hp,by omega,?_,?_,l p (by omega)⟩
  ·rw[J5,L5,<-LN hp]
   rfl
  ·show Fa _ ((List.replicate (AU rs).length false).set p true) _
   rw[LO];exact Xw hp
 ·by_cases g:j=32
  ·rw[if_pos g]at a;omega
  ·rw[if_neg g]at a
   obtain⟨_,_,f⟩:=So (AU rs) (BA (AU rs) t p (j-1)).ch (BA (AU rs) t p (j-1)).v t rs.length;cases i:(BH (AU rs) (BA (AU rs) t p (j-1)).ch (BA (AU rs) t p (j-1)).v t rs.length).1 with
   |none=>rw[i]at a;rw[a]at c;exact absurd c (by decide)
   |some b=>
    rw[i]at a f;have e:BA (AU rs) t p j=⟨(BA (AU rs) t p (j-1)).ch.set b true,xorL (BA (AU rs) t p (j-1)).v ((AU rs).getD b [])⟩:=by
     have:BA (AU rs) t p (j-1+1)=GP (AU rs) t (BA (AU rs) t p (j-1)):=rfl;rw[show j-1+1=j by omega]at this;rw[this,kQ (by rw[LO];exact i)]
    refine⟨b,a,f.1,by omega,?_,?_,l b (by omega)⟩
    ·rw[e,LN f.1]
    ·rw[e]
     exact m.snoc f.1 f.2.1.1
theorem Gv.last(h:Gv rs t p j L xs d ps pl)(c:¬0<=pl):
  (L.take j).mergeSort (fun x y=>decide (x<=y))=A5 (FP (BA (AU rs) t p 31).ch rs.length):=by
 obtain⟨o,i,k⟩:=h;rcases k with⟨rfl,rfl,rfl,rfl⟩|⟨m,rfl,n,g,a⟩
 ·omega
 ·have e:BA (AU rs) t p (j-1)=BA (AU rs) t p 31:=by
   by_cases f:j=32
   ·rw[f]
   ·rw[if_neg f]at a
    refine jI (by omega) ?_;rw[LO];cases l:(BH (AU rs) (BA (AU rs) t p (j-1)).ch (BA (AU rs) t p (j-1)).v t rs.length).1 with
    |none=>rfl
    |some b=>rw[l]at a;exact absurd (show 0<=pl by rw[a];exact Int.natCast_nonneg _) c
  rw[i,g.sort,e]
theorem Gv.len(h:Gv rs t p j L xs d ps pl)(a:∀i,((AU rs).getD i []).length<=10):xs.length<=10:=by
 rcases h.2.2 with⟨_,rfl,_⟩|⟨_,rfl,_⟩
 ·exact Nat.zero_le _
 ·exact Uv a _
def cntOf(w:World)(g:Nat):Nat:=match w.cell? ⟨g,32,none⟩with
 |some v=>(intOf v).toNat
 |none=>0
theorem CcAt.cntOf{w:World}{g:Nat}{k:Nat}{a:Value}(h:CcAt w g L k a xs d):cntOf w g=k:=by
 unfold Go.Proofs.YtfpfcnfmigaphaaGreatDoor.cntOf;rw[h.at.1];simp[intOf]
def Hu(rs:List RV)(b t:Int):List Int:=if rs.length=0 then []else A5 (FP (BA (AU rs) t (placeN b rs.length) 31).ch rs.length)
theorem pR{w:World}{a:Option Addr}{n:Nat}(c:Ak w a n rs)(e:Af rs):∀i,((AU rs).getD i []).length<=10:=fun i=>by
 by_cases b:i<rs.length
 ·rw[LN b,(c.2.1 i (by rw[<-c.1];exact b)).1]
  exact(e i).1
 ·rw[List.getD_eq_getElem?_getD,List.getElem?_eq_none (by rw[LO];omega)]
  exact Nat.zero_le _
theorem fK(a:Option Addr)(n c:Nat)(rs:List RV)(b t:Int)(w:World)(O:Ak w a n rs)(hs:Af rs)(hn:n<=300)(hb: -9223372036854775808<=b/\b<=9223372036854775807)(ht: -1099511627776<=t/\t<=1099511627776):
  Calls Tryz.prog 225 #[.slice a n c,.int .i64 b,.int .i64 t] w fun e w'=> ∃v,e=.returned v/\Am w' w.heap.size v (Hu rs b t)/\Below w.heap.size w w':=by
 obtain rfl:=O.1;unfold Hu;by_cases h0:rs.length=0
 ·rw[if_pos h0]
  have Y:(rs.length:Int)=0:=by omega
  clear O;go_enter Tryz.func225,Tryz.ntmps225;go_wp2;go_ret;exact⟨_,rfl,Am.nil _ _,Below.refl _ _⟩
 ·rw[if_neg h0]
  have Y:¬(rs.length:Int)=0:=by omega
  have ac:=(Vq b (show 0<rs.length by omega)).2;have B:=Ab (fun wx=>eu b rs.length (by omega) (by omega) hb wx);have o:=CcAt.new w;have l:Below w.heap.size w (w.alloc (.cells (E9 (List.replicate 32 0) 0 (.slice none 0 0) 0).toArray 344)):=(Below.refl _ _).alloc (Nat.le_refl _) _;have h:(E9 (List.replicate 32 0) 0 (.slice none 0 0) 0).toArray=#[.int .i64 0,.int .i64 0,.int .i64 0,.int .i64 0,.int .i64 0,.int .i64 0,.int .i64 0,.int .i64 0,.int .i64 0,.int .i64 0,.int .i64 0,.int .i64 0,.int .i64 0,.int .i64 0,.int .i64 0,.int .i64 0,.int .i64 0,.int .i64 0,.int .i64 0,.int .i64 0,.int .i64 0,.int .i64 0,.int .i64 0,.int .i64 0,.int .i64 0,.int .i64 0,.int .i64 0,.int .i64 0,.int .i64 0,.int .i64 0,.int .i64 0,.int .i64 0,.int .i64 0,.slice none 0 0,.int .i64 0]:=rfl;rw[h]at o l;have HV:=Ab (pR O hs);have H:=Ab (show∃L A xs d ps,CcAt (w.alloc (.cells #[.int .i64 0,.int .i64 0,.int .i64 0,.int .i64 0,.int .i64 0,.int .i64 0,.int .i64 0,.int .i64 0,.int .i64 0,.int .i64 0,.int .i64 0,.int .i64 0,.int .i64 0,.int .i64 0,.int .i64 0,.int .i64 0,.int .i64 0,.int .i64 0,.int .i64 0,.int .i64 0,.int .i64 0,.int .i64 0,.int .i64 0,.int .i64 0,.int .i64 0,.int .i64 0,.int .i64 0,.int .i64 0,.int .i64 0,.int .i64 0,.int .i64 0,.int .i64 0,.int .i64 0,.slice none 0 0,.int .i64 0] 344)) w.heap.size L 0 A xs d/\Gv rs t (placeN b rs.length) 0 L xs d ps ((placeN b rs.length:Nat):Int) from⟨_,_,_,_,[],o,by omega,rfl,.inl ⟨rfl,rfl,rfl,rfl⟩⟩);have C:=Ab l;have W:=Ab O;have I:=Ab hs;generalize placeN b rs.length=p at*;generalize hW:w.alloc (.cells #[.int .i64 0,.int .i64 0,.int .i64 0,.int .i64 0,.int .i64 0,.int .i64 0,.int .i64 0,.int .i64 0,.int .i64 0,.int .i64 0,.int .i64 0,.int .i64 0,.int .i64 0,.int .i64 0,.int .i64 0,.int .i64 0,.int .i64 0,.int .i64 0,.int .i64 0,.int .i64 0,.int .i64 0,.int .i64 0,.int .i64 0,.int .i64 0,.int .i64 0,.int .i64 0,.int .i64 0,.int .i64 0,.int .i64 0,.int .i64 0,.int .i64 0,.int .i64 0,.int .i64 0,.slice none 0 0,.int .i64 0] 344)=W1 at*
  clear O hs o l h;go_enter Tryz.func225,Tryz.ntmps225;go_wp2_with (go_at_call 255;refine(Aa B _).mono ?_;rintro e w1 ⟨rfl,P⟩;obtain rfl:=P.symm;clear P B);clear hW;go_loopw [8] (fun pl wr=> ∃z:Int,∃j:Nat,pl=.int .i64 z/\Hid (∃L A xs d ps,CcAt wr w.heap.size L j A xs d/\Gv rs t p j L xs d ps z)/\Hid (Below w.heap.size w wr)) (fun _ wr=>33-cntOf wr w.heap.size)
  case atStart=>exact⟨_,0,rfl,H,C⟩
  case round=>
   obtain⟨z,j,rfl,HS,Q⟩:=hrel;clear H C;obtain⟨L,A,xs,d,ps,x,y⟩:=Aa HS;clear HS;have hx:=y.len (Aa HV);have aa:=x.cntOf;by_cases hz:0<=z
   ·obtain⟨g,rfl,m,hj,K,q,s⟩:=y.go ac x.len hz
    have ae:(g:Int)<(rs.length:Int):=by omega
    have hR:=(Aa W).below (Aa Q);obtain⟨bb,off,rfl,h⟩:=hR.at m;obtain⟨af,ag⟩:=h g m;have i:=(Aa W).2.1 g m;have ad:=(Aa I g).1;generalize rs.getD g .dflt=r at*;have R:=Ab (nJ w L j A xs d g r.a r.n r.c r.xs wr x (Aa Q) i hj hx ad);have hy:(xorL xs r.xs).length<=10:=by rw[BV,i.1];omega
    have T:=Ab (fun wx u (ab:CcAt wx w.heap.size (L.set j (g:Int)) (j+1) u (xorL xs r.xs) (cnt (xorL xs r.xs))) (Z:Below w.heap.size w wx)=>jJ w.heap.size (L.set j (g:Int)) (j+1) u (xorL xs r.xs) (some ⟨bb,off,none⟩) rs.length c rs t _ (ps++[g]) wx ab ((Aa W).below Z) (Aa I) hn hy (by omega) q s ht);have S:=Ab (show Gv rs t p (j+1) (L.set j (g:Int)) (xorL xs r.xs) (cnt (xorL xs r.xs)) (ps++[g]) (if j+1=32 then -1 else KR (BH (AU rs) (BA (AU rs) t p j).ch (xorL xs r.xs) t rs.length).1) from⟨by omega,s,.inr ⟨by omega,by rw[K];rfl,rfl,q,rfl⟩⟩);clear y K q s hR h x i;generalize xorL xs r.xs=ys at*;generalize (if j+1=32 then -1 else KR (BH (AU rs) (BA (AU rs) t p j).ch ys t rs.length).1)=z2 at*
    go_wp2_with (first
     |(go_at_call 257;refine(Aa R).mono ?_;rintro e w1 ⟨rfl,⟨u,hu⟩,J⟩;have E:=Ab hu;have D:=Ab J;clear hu J)
     |(go_at_call 256;refine(Aa T _ u (Aa E) (Aa D)).mono ?_;rintro e w2 ⟨rfl,f⟩;have G:=Ab ((Aa E).below f);have k:=Ab (Ad (Aa D) f);clear f))
    go_roundw
    case rel=>exact⟨_,j+1,rfl,Ab ⟨_,_,_,_,_,Aa G,Aa S⟩,k⟩
    case measure=>
     rw[aa,(Aa G).cntOf];omega
   ·have X:=Ab (fx w.heap.size L j A xs d wr x y.1)
    have HE:=Ab (y.last hz);clear y x;go_wp2_with (go_at_call 258;refine(Aa X).mono ?_;rintro e w2 ⟨v2,rfl,N,f⟩;have V:=Ab N;have k:=Ab (Ad (Aa Q) f);clear N f);go_ret;exact⟨_,rfl,by rw[<-Aa HE];exact(Aa V).mono (Aa Q).size,Aa k⟩
variable {rs:List RV}{w:World}
def Di(w wr:World)(n:Nat)(c:List Nat):Prop:=Am wr w.heap.size (.slice (some ⟨w.heap.size,0,none⟩) n n) (A5 c)/\Below w.heap.size w wr/\w.heap.size<wr.heap.size
theorem Di.new(w:World)(n:Nat)(a:n<=1048576):Di w (w.alloc (.cells (madeCells #[.int .i64 0] n) 3)) n (List.replicate n 0):=
 ⟨LG w n a _ (by simp[A5]),(Below.refl _ _).alloc (Nat.le_refl _) _,by simp⟩
theorem Di.cell{wr:World}{n:Nat}{c:List Nat}(h:Di w wr n c)(k:c.length=n){i:Nat}(f:i<n):wr.cell? ⟨w.heap.size,i,none⟩=some (.int .i64 ((c.getD i 0:Nat):Int))/\wr.frozen? ⟨w.heap.size,i,none⟩=false:=by
 obtain⟨g,cap,e,_,_,a,b⟩:=h.1.at (by rw[Hj];omega);simp only[Value.slice.injEq,Option.some.injEq,Addr.mk.injEq]at e;obtain⟨⟨rfl,_⟩,_⟩:=e;exact⟨by rw[a i (by rw[Hj];omega),Lh],b i⟩
theorem hG(c:List Nat)(i x:Nat):(A5 c).set i ((x:Nat):Int)=A5 (c.set i x):=by unfold A5;rw[List.map_set]
theorem Di.more{wr:World}{n:Nat}{c:List Nat}(h:Di w wr n c)(i x:Nat):Di w (wr.setCell ⟨w.heap.size,i,none⟩ (.int .i64 ((x:Nat):Int))) n (c.set i x):=by
 refine⟨?_,h.2.1.setCell (p:=⟨w.heap.size,i,none⟩) (Nat.le_refl _) _,by rw[World.size_setCell];exact h.2.2⟩;have:=h.1.stored i ((x:Nat):Int);rwa[hG]at this
theorem iP(n:Nat)(a:List Int)(k:Nat)(b:k<a.length):Cz n (a.take (k+1))=if 0<=a.getD k 0/\a.getD k 0<(n:Int)then(Cz n (a.take k)).set (a.getD k 0).toNat ((Cz n (a.take k)).getD (a.getD k 0).toNat 0+1)else Cz n (a.take k):=by
 have e:a.take (k+1)=a.take k++[a.getD k 0]:=by
  rw[List.take_succ_eq_append_getElem b];simp[List.getD_eq_getElem?_getD,List.getElem?_eq_getElem b]
 rw[e,I7]
theorem kq(h:Af rs){r:RV}(b:r∈rs):r.n<=10/\r.s.size<=1000:=by
 obtain⟨i,a,rfl⟩:=List.mem_iff_getElem.1 b;have:=h i;rwa[List.getD_eq_getElem?_getD,List.getElem?_eq_getElem a]at this
theorem pg(h:∀r∈rs,r.n<=10/\r.s.size<=1000):Af rs:=fun i=>by
 by_cases a:i<rs.length
 ·rw[List.getD_eq_getElem?_getD,List.getElem?_eq_getElem a]
  exact h _ (List.getElem_mem a)
 ·rw[List.getD_eq_getElem?_getD,List.getElem?_eq_none (by omega)]
  exact⟨Nat.zero_le _,Nat.zero_le _⟩
theorem Ae.sub{us:List RV}(h:Ae w rs)(b:∀r∈us,r∈rs):Ae w us:=fun r a=>h r (b r a)
theorem iU(b:Ae w rs)(h:Af rs):(AJ rs).length<=10:=ON rs fun r a=>by rw[(b r a).1.1];exact(kq h a).1
theorem OwnP.grownLow{w':World}{B:Nat}{v:Value}{ps:List PKV}(h:OwnP w B v ps)(b:w.grownBy w' v.ownBlock)(a:B<=w.heap.size):Below B w w':=CP b a fun k c=>(World.ownsRow.lt h k c).1
theorem Xl(a:Option Addr)(n c:Nat)(ps:List PKV)(a':Option Addr)(m c':Nat)(f:List Int)(w:World)(h:PksAt w a n ps)(hw:IntzAt w a' m f)(hn:n<=300)(hm:m<=300):
  Calls Tryz.prog 259 #[.slice a n c,.slice a' m c'] w fun e w'=> ∃v,e=.returned v/\OwnP w' w.heap.size v (atL .dflt ps f)/\Below w.heap.size w w':=by
 obtain rfl:=h.1;obtain rfl:=hw.1;have a0:=LH ps.length (by omega) w;have HS:=Ab (Di.new w ps.length (by omega));have Hh:=Ab h;have HW:=Ab hw;clear h hw;go_enter Tryz.func259,Tryz.ntmps259;go_wp2;go_loopw [16] (fun i wr=> ∃k:Nat,k<=f.length/\i=.int .i64 k/\Hid (Di w wr ps.length (Cz ps.length (f.take k)))) (fun i _=>f.length-(intOf i).toNat)
 case atStart=>exact⟨0,Nat.zero_le _,rfl,HS⟩
 case round=>
  obtain⟨k,hk,rfl,D⟩:=hrel;clear HS;by_cases O:k<f.length
  ·obtain⟨b,off,rfl,A⟩:=((Aa HW).below (Aa D).2.1).at O
   have N:=A k O;have an:(k:Int)<(f.length:Int):=by omega
   have S:=Ab (iP ps.length f k O);have HL:=Ab (U8 ps.length (f.take k));have K:=Ab (Ke ps.length (f.take k));generalize f.getD k 0=i at*;generalize hQ:Cz ps.length (f.take k)=q at*;clear A hQ;by_cases h0:0<=i
   ·by_cases h1:i<(ps.length:Int)
    ·obtain⟨j,rfl⟩:∃j:Nat,i=(j:Int):=⟨i.toNat,by omega⟩
     have hj:j<ps.length:=by omega
     obtain⟨Z,ay⟩:=(Aa D).cell (Aa K) hj;have az:q.getD j 0<=300:=by
      have h5:=Aa HL j;have h6:=List.length_take_le k f;omega
     have B:=Ab (show Cz ps.length (f.take (k+1))=q.set j (q.getD j 0+1) from by rw[Aa S,if_pos ⟨h0,h1⟩];rfl);generalize q.getD j 0=x at*;clear S HL;go_wp2;go_roundw
     case rel=>exact⟨k+1,by omega,by go_num,Ab (by rw[Aa B];exact(Aa D).more j (x+1))⟩
     case measure=>simp[intOf];omega
    ·have B:=Ab (show Cz ps.length (f.take (k+1))=q from by rw[Aa S,if_neg (fun e=>h1 e.2)])
     clear S HL;go_wp2;go_roundw
     case rel=>exact⟨k+1,by omega,by go_num,Ab (by rw[Aa B];exact Aa D)⟩
     case measure=>simp[intOf];omega
   ·have B:=Ab (show Cz ps.length (f.take (k+1))=q from by rw[Aa S,if_neg (fun e=>h0 e.1)])
    clear S HL;go_wp2;go_roundw
    case rel=>exact⟨k+1,by omega,by go_num,Ab (by rw[Aa B];exact Aa D)⟩
    case measure=>simp[intOf];omega
  ·have ab:f.take k=f:=List.take_of_length_le (by omega)
   rw[ab]at D;obtain⟨wo,rfl⟩:∃wo,wo=wr:=⟨wr,rfl⟩;have K:=Ab (Ke ps.length f);have ae:=Ab (U8 ps.length f);have ad:=Ab (show B9 .dflt ps (Cz ps.length f) ps.length=atL .dflt ps f from rfl);generalize Cz ps.length f=q at*;have HC:=Ab (fun(wx:World) (hb:Below (w.heap.size+1) wo wx) (t:Nat) (ht:t<ps.length)=>(hb.cell (p:=⟨w.heap.size,t,none⟩) (Nat.lt_succ_self _)).trans ((Aa D).cell (Aa K) ht).1);have W:=Ab (Aa D).2.1;have R:=(Aa D).2.2;clear D ab HW;go_wp2;go_loopw [8,37] (fun o i wx=> ∃t:Nat,∃T:Option Addr,∃V c1:Nat,t<=ps.length/\i=.int .i64 t/\o=.slice T V c1/\Hid (OwnP wx (w.heap.size+1) (.slice T V c1) (B9 .dflt ps q t)/\Below (w.heap.size+1) wo wx)) (fun _ i _=>ps.length-(intOf i).toNat)
   case atStart=>exact⟨0,none,0,0,Nat.zero_le _,rfl,rfl,Ab ⟨OwnP.nil _ _,Below.refl _ _⟩⟩
   case round=>
    obtain⟨t,T,V,c1,ht,rfl,rfl,u⟩:=hrel;by_cases J:t<ps.length
    ·have N:=Aa HC _ (Aa u).2 t J
     have hR:=(Aa W).trans ((Aa u).2.mono (Nat.le_succ _));obtain⟨b,off,rfl,A⟩:=(Aa Hh).at J;have Y:b<w.heap.size:=World.block_lt_of_cell? w _ (A t J).1;obtain⟨ag,ah,Z,ai,aj,ak,al⟩:=(A t J).belowB hR Y;have ao:(t:Int)<(ps.length:Int):=by omega
     have I:w.heap.size+1<=wr.heap.size:=Nat.le_trans R (Aa u).2.size;have am:(B9 .dflt ps q t).length<=600:=by
      have:∀t,(B9 .dflt ps q t).length<=2*t:=fun t=>by
       induction t with
       |zero=>exact Nat.zero_le _
       |succ t ih=>
        by_cases z:q.getD t 0=0
        ·rw[Fj z];omega
        ·by_cases z2:q.getD t 0%2=0
         ·rw[ET z z2];simp only[List.length_append,List.length_singleton];omega
         ·rw[Eh z z2];simp only[List.length_append,List.length_singleton];omega
      have:=this t;omega
     clear hR A;have G:=Ab (fun h=>Fj (dd:=.dflt) (l:=ps) (c:=q) (k:=t) h);have E:=Ab (fun h h2=>ET (dd:=.dflt) (l:=ps) (c:=q) (k:=t) h h2);have H:=Ab (fun h h2=>Eh (dd:=.dflt) (l:=ps) (c:=q) (k:=t) h h2);have a2:=Aa ae t;generalize q.getD t 0=x at*;generalize ps.getD t .dflt=p at*;generalize hT:B9 .dflt ps q t=us at*;by_cases z:x=0
     ·subst z
      have B:=Ab (Aa G rfl);clear G E H;go_wp2;go_roundw
      case rel=>exact⟨t+1,T,V,c1,by omega,by go_num,rfl,Ab (by rw[Aa B];exact Aa u)⟩
      case measure=>simp[intOf];omega
     ·have z':¬((x:Int)=0):=by omega
      by_cases z2:x%2=0
      ·have B:=Ab (Aa E z z2)
       clear G E H;have ac:((x:Nat):Int).tmod 2=0:=by rw[show((x:Nat):Int).tmod 2=((x%2:Nat):Int) from(Int.ofNat_tmod x 2).symm];omega
       go_wp2_with (first|(at_builtin;refine M5 rfl (.tmp 44) (.tmp 49) rfl (w.heap.size+1) (.slice T V c1) us p rfl rfl (Aa u).1 I (by omega) ?_;intro g4 c4 w4 s C _;have y:=OwnP.grownLow (Aa u).1 C I;obtain⟨m4,r⟩:∃m,m=us.length+1:=⟨_,rfl⟩;rw[<-r]at s;rw[<-r];clear r;have g:=Ab (And.intro s ((Aa u).2.trans y));obtain⟨ap,aq,ar,au,av,aw,ax⟩:=AT.belowB (p:=p) ⟨ag,ah,Z,ai,aj,ak,al⟩ y (Nat.lt_succ_of_lt Y);clear s C y)|(at_builtin;refine M5 rfl (.tmp 54) (.tmp 59) rfl (w.heap.size+1) (.slice (some ⟨g4,0,none⟩) m4 c4) (us++[p]) p rfl rfl (Aa g).1 (Nat.le_trans R (Aa g).2.size) (by simp;omega) ?_;intro g5 c5 w5 Q aa _;have X:=OwnP.grownLow (Aa g).1 aa (Nat.le_trans R (Aa g).2.size);obtain⟨m5,P⟩:∃m,m=(us++[p]).length+1:=⟨_,rfl⟩;rw[<-P]at Q;rw[<-P];clear P;have af:=Ab (And.intro Q ((Aa g).2.trans X));clear Q aa X));go_roundw
       case rel=>exact⟨t+1,some ⟨g5,0,none⟩,m5,c5,by omega,by go_num,rfl,Ab (by rw[Aa B];exact Aa af)⟩
       case measure=>simp[intOf];omega
      ·have B:=Ab (Aa H z z2)
       clear G E H;have ac:¬((x:Nat):Int).tmod 2=0:=by rw[show((x:Nat):Int).tmod 2=((x%2:Nat):Int) from(Int.ofNat_tmod x 2).symm];omega
       go_wp2_with (first|(at_builtin;refine M5 rfl (.tmp 44) (.tmp 49) rfl (w.heap.size+1) (.slice T V c1) us p rfl rfl (Aa u).1 I (by omega) ?_;intro g4 c4 w4 s C _;have y:=OwnP.grownLow (Aa u).1 C I;obtain⟨m4,r⟩:∃m,m=us.length+1:=⟨_,rfl⟩;rw[<-r]at s;rw[<-r];clear r;have g:=Ab (And.intro s ((Aa u).2.trans y));clear s C y));go_roundw
       case rel=>exact⟨t+1,some ⟨g4,0,none⟩,m4,c4,by omega,by go_num,rfl,Ab (by rw[Aa B];exact Aa g)⟩
       case measure=>simp[intOf];omega
    ·obtain rfl:t=ps.length:=by omega
     rw[Aa ad]at u;go_wp2;go_ret;exact⟨_,rfl,(Aa u).1.mono (Nat.le_succ _),(Aa W).trans ((Aa u).2.mono (Nat.le_succ _))⟩
end Go.Proofs.YtfpfcnfmigaphaaGreatDoor
