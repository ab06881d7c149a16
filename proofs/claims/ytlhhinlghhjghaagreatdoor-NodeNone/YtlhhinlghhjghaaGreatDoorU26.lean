/-
  Contracts of choice.rising and recode.Choose. Conditions: at most 300 rows of at most 10 words, a target from -2^40 to 2^40.
  Contract of recode.at at rows: what stands at the places. Conditions: at most 300 rows, at most 300 places.
  Contracts of bucketlineref18.sum, both Degree: the xor of the rows at the places, and its degree. Conditions: at most 300 rows of at most 10 words and 1000 bytes, at most 300 places.
  Contract of recode.at at packets: what stands at the places. Conditions: at most 300 packets, at most 300 places.
-/
import Derived.Test.YtlhhinlghhjghaaGreatDoorU25
import Derived.Test.YtlhhinlghhjghaaGreatDoorU24
import Derived.Test.YtlhhinlghhjghaaGreatDoorU5
import Derived.Test.YtlhhinlghhjghaaGreatDoorU4
import Derived.Test.YtlhhinlghhjghaaGreatDoorU7
import Derived.Test.YtlhhinlghhjghaaGreatDoorU21
namespace Go.Proofs.YtlhhinlghhjghaaGreatDoor
open Go.RowKit Go.Sort
set_option linter.unusedVariables false
set_option linter.unusedSimpArgs false
set_option maxRecDepth 4000
set_option maxHeartbeats 8000000
variable {t pl:Int}{L:List Int}{xs ps:List Nat}{rs:List RV}{p j d:Nat}
theorem Zpu(g:Nat)(L:List Int)(k:Nat)(sv:Value)(xs:List Nat)(d:Nat)(w:World)(h:CcAt w g L k sv xs d)(hk:k≤32):
  Calls Tryz.prog 258 #[.pointer (some ⟨g,0,none⟩)] w fun e w'=> ∃v,e=.returned v∧OwnZ w' w.heap.size v ((L.take k).mergeSort fun x y=>decide (x≤y))∧Below w.heap.size w w':=by
 have hk':(k:Int)≤32:=by omega
 obtain⟨q0,q1,q2⟩:=h.at
 have hln:(L.take k).length≤32:=by rw[List.length_take,h.len];omega
 have HCL:=hide (fun wx (hb:Below w.heap.size w wx)=>ZiB ⟨g,0,none⟩ k 32 (L.take k) wx ((h.below hb).ints hk) (by omega))
 have HQ:=hide (fun wx (hb:Below w.heap.size w wx)=>(h.below hb).at.1)
 clear h q1 q2
 generalize hT:L.take k=T at*
 clear hT
 go_enter Tryz.func258,Tryz.ntmps258
 go_wp2_with fail
 go_region_held3 (fun w'=>w'.cell? ⟨g,32,none⟩=some (.int .i64 (k:Int))) (go_keep) (first
  |(go_at_call 57;refine(unhide HCL _ (Below.refl _ _).drew).mono ?_;rintro e w1 ⟨v1,rfl,ho1,hb1⟩;obtain⟨a1,m1,c1,rfl⟩:∃a m c,v1=Value.slice a m c:=(by obtain⟨a,c,e,_⟩:=ho1.ints;exact⟨a,_,c,e⟩);have D1:=hide (show Below w.heap.size w w1 from below0 (Below.refl _ _).drew hb1);have q0:=unhide HQ w1 (unhide D1);have HO:=hide (show OwnZ w1 w.heap.size (.slice a1 m1 c1) T from ho1);clear ho1 hb1))
 have HSO:=hide (Znl w.heap.size (.slice a1 m1 c1) T w1 (unhide HO) (by omega))
 go_wp2_with (go_at_call 252;refine(unhide HSO).mono ?_;rintro e w2 ⟨rfl,ho2,hg2⟩;have HO2:=hide ho2;have HB2:=hide ((unhide D1).trans (Zat hg2 (unhide D1).size fun k hk=>(World.ownsRow.lt (unhide HO) k hk).1));clear ho2 hg2)
 go_ret
 exact⟨_,rfl,unhide HO2,unhide HB2⟩
def ChP(rs:List RV)(t:Int)(p j:Nat)(L:List Int)(xs:List Nat)(d:Nat)(ps:List Nat)(pl:Int):Prop:=
 j≤32∧L.take j=ZaF ps∧((j=0∧xs=[]∧ps=[]∧pl=(p:Int))∨
  (1≤j∧xs=(chTo (Zaw rs) t p (j-1)).v∧d=cnt xs∧Chn rs.length (chTo (Zaw rs) t p (j-1)).ch ps∧pl=if j=32 then -1 else ZsR (Zaz (Zaw rs) (chTo (Zaw rs) t p (j-1)).ch xs t rs.length).1))
theorem ChP.go(h:ChP rs t p j L xs d ps pl)(hp:p<rs.length)(hl:L.length=32)(hpl:0≤pl):
  ∃b:Nat,pl=(b:Int)∧b<rs.length∧j<32∧xorL xs (rs.getD b .dflt).xs=(chTo (Zaw rs) t p j).v∧Chn rs.length (chTo (Zaw rs) t p j).ch (ps++[b])∧(L.set j (b:Int)).take (j+1)=ZaF (ps++[b]):=by
 obtain⟨h1,h2,h3⟩:=h
 have tk:∀b:Nat,j<32→(L.set j (b:Int)).take (j+1)=ZaF (ps++[b]):=fun b hj=>by
  have hjl:j<(L.set j (b:Int)).length:=by rw[List.length_set,hl];exact hj
  rw[List.take_succ_eq_append_getElem hjl,List.take_set_of_le (Nat.le_refl _),h2,Zgf,List.getElem_set_self]
  rfl
 rcases h3 with⟨rfl,rfl,rfl,rfl⟩|⟨g1,rfl,g3,g4,g5⟩
 ·refine⟨p,rfl,hp,by omega,?_,?_,tk p (by omega)⟩
  ·rw[ZdN,ZgE,←Zfp hp]
   rfl
  ·show Chn _ ((List.replicate (Zaw rs).length false).set p true) _
   rw[ZeM]
   exact Zy1 hp
 ·by_cases hj:j=32
  ·rw[if_pos hj]at g5;omega
  ·rw[if_neg hj]at g5
   obtain⟨_,_,k3⟩:=ZjZ (Zaw rs) (chTo (Zaw rs) t p (j-1)).ch (chTo (Zaw rs) t p (j-1)).v t rs.length
   cases hb:(Zaz (Zaw rs) (chTo (Zaw rs) t p (j-1)).ch (chTo (Zaw rs) t p (j-1)).v t rs.length).1 with
   |none=>rw[hb]at g5;rw[g5]at hpl;exact absurd hpl (by decide)
   |some b=>
    rw[hb]at g5 k3
    have hst:chTo (Zaw rs) t p j=⟨(chTo (Zaw rs) t p (j-1)).ch.set b true,xorL (chTo (Zaw rs) t p (j-1)).v ((Zaw rs).getD b [])⟩:=by
     have:chTo (Zaw rs) t p (j-1+1)=Zfe (Zaw rs) t (chTo (Zaw rs) t p (j-1)):=rfl
     rw[show j-1+1=j by omega]at this
     rw[this,ZqT (by rw[ZeM];exact hb)]
    refine⟨b,g5,k3.1,by omega,?_,?_,tk b (by omega)⟩
    ·rw[hst,Zfp k3.1]
    ·rw[hst]
     exact g4.snoc k3.1 k3.2.1.1
theorem ChP.last(h:ChP rs t p j L xs d ps pl)(hpl:¬0≤pl):
  (L.take j).mergeSort (fun x y=>decide (x≤y))=ZaF (ZbJ (chTo (Zaw rs) t p 31).ch rs.length):=by
 obtain⟨h1,h2,h3⟩:=h
 rcases h3 with⟨rfl,rfl,rfl,rfl⟩|⟨g1,rfl,g3,g4,g5⟩
 ·omega
 ·have e:chTo (Zaw rs) t p (j-1)=chTo (Zaw rs) t p 31:=by
   by_cases hj:j=32
   ·rw[hj]
   ·rw[if_neg hj]at g5
    refine Zug (by omega) ?_
    rw[ZeM]
    cases hb:(Zaz (Zaw rs) (chTo (Zaw rs) t p (j-1)).ch (chTo (Zaw rs) t p (j-1)).v t rs.length).1 with
    |none=>rfl
    |some b=>rw[hb]at g5;exact absurd (show 0≤pl by rw[g5];exact Int.natCast_nonneg _) hpl
  rw[h2,g4.sort,e]
theorem ChP.len(h:ChP rs t p j L xs d ps pl)(hv:∀i,((Zaw rs).getD i []).length≤10):xs.length≤10:=by
 rcases h.2.2 with⟨_,rfl,_⟩|⟨_,rfl,_⟩
 ·exact Nat.zero_le _
 ·exact Zn5 hv _
def cntOf(w:World)(g:Nat):Nat:=match w.cell? ⟨g,32,none⟩with
 |some v=>(intOf v).toNat
 |none=>0
theorem CcAt.cntOf{w:World}{g:Nat}{k:Nat}{sv:Value}(h:CcAt w g L k sv xs d):cntOf w g=k:=by
 unfold Go.Proofs.YtlhhinlghhjghaaGreatDoor.cntOf
 rw[h.at.1]
 simp[intOf]
def Zdt(rs:List RV)(b t:Int):List Int:=if rs.length=0 then []else ZaF (ZbJ (chTo (Zaw rs) t (placeN b rs.length) 31).ch rs.length)
theorem Zve{w:World}{a:Option Addr}{n:Nat}(hr:RowsAt w a n rs)(hs:shortR rs):∀i,((Zaw rs).getD i []).length≤10:=fun i=>by
 by_cases hi:i<rs.length
 ·rw[Zfp hi,(hr.2.1 i (by rw[←hr.1];exact hi)).1]
  exact(hs i).1
 ·rw[List.getD_eq_getElem?_getD,List.getElem?_eq_none (by rw[ZeM];omega)]
  exact Nat.zero_le _
theorem choose_any(a:Option Addr)(n c:Nat)(rs:List RV)(b t:Int)(w:World)(hr:RowsAt w a n rs)(hs:shortR rs)(hn:n≤300)(hb: -9223372036854775808≤b∧b≤9223372036854775807)(ht: -1099511627776≤t∧t≤1099511627776):
  Calls Tryz.prog 225 #[.slice a n c,.int .i64 b,.int .i64 t] w fun e w'=> ∃v,e=.returned v∧OwnZ w' w.heap.size v (Zdt rs b t)∧Below w.heap.size w w':=by
 obtain rfl:=hr.1
 unfold Zdt
 by_cases h0:rs.length=0
 ·rw[if_pos h0]
  have h0':(rs.length:Int)=0:=by omega
  clear hr
  go_enter Tryz.func225,Tryz.ntmps225
  go_wp2
  go_ret
  exact⟨_,rfl,OwnZ.nil _ _,Below.refl _ _⟩
 ·rw[if_neg h0]
  have h0':¬(rs.length:Int)=0:=by omega
  have hpl:=(Zoe b (show 0<rs.length by omega)).2
  have HAR:=hide (fun wx=>ZpT b rs.length (by omega) (by omega) hb wx)
  have hcc:=CcAt.new w
  have hb0:Below w.heap.size w (w.alloc (.cells (ccL (List.replicate 32 0) 0 (.slice none 0 0) 0).toArray 344)):=(Below.refl _ _).alloc (Nat.le_refl _) _
  have hcl:(ccL (List.replicate 32 0) 0 (.slice none 0 0) 0).toArray=#[.int .i64 0,.int .i64 0,.int .i64 0,.int .i64 0,.int .i64 0,.int .i64 0,.int .i64 0,.int .i64 0,.int .i64 0,.int .i64 0,.int .i64 0,.int .i64 0,.int .i64 0,.int .i64 0,.int .i64 0,.int .i64 0,.int .i64 0,.int .i64 0,.int .i64 0,.int .i64 0,.int .i64 0,.int .i64 0,.int .i64 0,.int .i64 0,.int .i64 0,.int .i64 0,.int .i64 0,.int .i64 0,.int .i64 0,.int .i64 0,.int .i64 0,.int .i64 0,.int .i64 0,.slice none 0 0,.int .i64 0]:=rfl
  rw[hcl]at hcc hb0
  have HV:=hide (Zve hr hs)
  have HS0:=hide (show∃L sv xs d ps,CcAt (w.alloc (.cells #[.int .i64 0,.int .i64 0,.int .i64 0,.int .i64 0,.int .i64 0,.int .i64 0,.int .i64 0,.int .i64 0,.int .i64 0,.int .i64 0,.int .i64 0,.int .i64 0,.int .i64 0,.int .i64 0,.int .i64 0,.int .i64 0,.int .i64 0,.int .i64 0,.int .i64 0,.int .i64 0,.int .i64 0,.int .i64 0,.int .i64 0,.int .i64 0,.int .i64 0,.int .i64 0,.int .i64 0,.int .i64 0,.int .i64 0,.int .i64 0,.int .i64 0,.int .i64 0,.int .i64 0,.slice none 0 0,.int .i64 0] 344)) w.heap.size L 0 sv xs d∧ChP rs t (placeN b rs.length) 0 L xs d ps ((placeN b rs.length:Nat):Int) from⟨_,_,_,_,[],hcc,by omega,rfl,.inl ⟨rfl,rfl,rfl,rfl⟩⟩)
  have HB0:=hide hb0
  have HR:=hide hr
  have HSH:=hide hs
  generalize placeN b rs.length=p at*
  generalize hW:w.alloc (.cells #[.int .i64 0,.int .i64 0,.int .i64 0,.int .i64 0,.int .i64 0,.int .i64 0,.int .i64 0,.int .i64 0,.int .i64 0,.int .i64 0,.int .i64 0,.int .i64 0,.int .i64 0,.int .i64 0,.int .i64 0,.int .i64 0,.int .i64 0,.int .i64 0,.int .i64 0,.int .i64 0,.int .i64 0,.int .i64 0,.int .i64 0,.int .i64 0,.int .i64 0,.int .i64 0,.int .i64 0,.int .i64 0,.int .i64 0,.int .i64 0,.int .i64 0,.int .i64 0,.int .i64 0,.slice none 0 0,.int .i64 0] 344)=W1 at*
  clear hr hs hcc hb0 hcl
  go_enter Tryz.func225,Tryz.ntmps225
  go_wp2_with (go_at_call 255;refine(unhide HAR _).mono ?_;rintro e w1 ⟨rfl,hw1⟩;obtain rfl:=hw1.symm;clear hw1 HAR)
  clear hW
  go_loopw [8] (fun pl wr=> ∃z:Int,∃j:Nat,pl=.int .i64 z∧Hid (∃L sv xs d ps,CcAt wr w.heap.size L j sv xs d∧ChP rs t p j L xs d ps z)∧Hid (Below w.heap.size w wr)) (fun _ wr=>33-cntOf wr w.heap.size)
  case atStart=>exact⟨_,0,rfl,HS0,HB0⟩
  case round=>
   obtain⟨z,j,rfl,HS,HB⟩:=hrel
   clear HS0 HB0
   obtain⟨L,sv,xs,d,ps,hC,hP⟩:=unhide HS
   clear HS
   have hx:=hP.len (unhide HV)
   have hcn:=hC.cntOf
   by_cases hz:0≤z
   ·obtain⟨e1,rfl,hbl,hj,he1,he2,he3⟩:=hP.go hpl hC.len hz
    have hbl':(e1:Int)<(rs.length:Int):=by omega
    have hR:=(unhide HR).below (unhide HB)
    obtain⟨bb,off,rfl,hcl⟩:=hR.at hbl
    obtain⟨hc0,hc1⟩:=hcl e1 hbl
    have hrow:=(unhide HR).2.1 e1 hbl
    have hsh:=(unhide HSH e1).1
    generalize rs.getD e1 .dflt=r at*
    have HAD:=hide (Zwn w L j sv xs d e1 r.a r.n r.c r.xs wr hC (unhide HB) hrow hj hx hsh)
    have hy:(xorL xs r.xs).length≤10:=by rw[Zae,hrow.1];omega
    have HNX:=hide (fun wx u (hcx:CcAt wx w.heap.size (L.set j (e1:Int)) (j+1) u (xorL xs r.xs) (cnt (xorL xs r.xs))) (hbx:Below w.heap.size w wx)=>ZqR w.heap.size (L.set j (e1:Int)) (j+1) u (xorL xs r.xs) (some ⟨bb,off,none⟩) rs.length c rs t _ (ps++[e1]) wx hcx ((unhide HR).below hbx) (unhide HSH) hn hy (by omega) he2 he3 ht)
    have HNP:=hide (show ChP rs t p (j+1) (L.set j (e1:Int)) (xorL xs r.xs) (cnt (xorL xs r.xs)) (ps++[e1]) (if j+1=32 then -1 else ZsR (Zaz (Zaw rs) (chTo (Zaw rs) t p j).ch (xorL xs r.xs) t rs.length).1) from⟨by omega,he3,.inr ⟨by omega,by rw[he1];rfl,rfl,he2,rfl⟩⟩)
    clear hP he1 he2 he3 hR hcl hC hrow
    generalize xorL xs r.xs=ys at*
    generalize (if j+1=32 then -1 else ZsR (Zaz (Zaw rs) (chTo (Zaw rs) t p j).ch ys t rs.length).1)=z2 at*
    go_wp2_with (first
     |(go_at_call 257;refine(unhide HAD).mono ?_;rintro e w1 ⟨rfl,⟨u,hu⟩,hb1⟩;have HC1:=hide hu;have HB1:=hide hb1;clear hu hb1)
     |(go_at_call 256;refine(unhide HNX _ u (unhide HC1) (unhide HB1)).mono ?_;rintro e w2 ⟨rfl,hb2⟩;have HC2:=hide ((unhide HC1).below hb2);have HB2:=hide (below0 (unhide HB1) hb2);clear hb2))
    go_roundw
    case rel=>exact⟨_,j+1,rfl,hide ⟨_,_,_,_,_,unhide HC2,unhide HNP⟩,HB2⟩
    case measure=>
     rw[hcn,(unhide HC2).cntOf]
     omega
   ·have HRI:=hide (Zpu w.heap.size L j sv xs d wr hC hP.1)
    have HE:=hide (hP.last hz)
    clear hP hC
    go_wp2_with (go_at_call 258;refine(unhide HRI).mono ?_;rintro e w2 ⟨v2,rfl,ho2,hb2⟩;have HO2:=hide ho2;have HB2:=hide (below0 (unhide HB) hb2);clear ho2 hb2)
    go_ret
    exact⟨_,rfl,by rw[←unhide HE];exact(unhide HO2).mono (unhide HB).size,unhide HB2⟩
end Go.Proofs.YtlhhinlghhjghaaGreatDoor
namespace Go.Proofs.YtlhhinlghhjghaaGreatDoor
open Go.RowKit
set_option linter.unusedVariables false
set_option linter.unusedSimpArgs false
set_option maxRecDepth 4000
set_option maxHeartbeats 8000000
variable {rs:List RV}{w:World}
def TimS(w wr:World)(n:Nat)(c:List Nat):Prop:=OwnZ wr w.heap.size (.slice (some ⟨w.heap.size,0,none⟩) n n) (ZaF c)∧Below w.heap.size w wr∧w.heap.size<wr.heap.size
theorem TimS.new(w:World)(n:Nat)(hn:n≤1048576):TimS w (w.alloc (.cells (madeCells #[.int .i64 0] n) 3)) n (List.replicate n 0):=
 ⟨Zfh w n hn _ (by simp[ZaF]),(Below.refl _ _).alloc (Nat.le_refl _) _,by simp⟩
theorem TimS.cell{wr:World}{n:Nat}{c:List Nat}(h:TimS w wr n c)(hl:c.length=n){i:Nat}(hi:i<n):wr.cell? ⟨w.heap.size,i,none⟩=some (.int .i64 ((c.getD i 0:Nat):Int))∧wr.frozen? ⟨w.heap.size,i,none⟩=false:=by
 obtain⟨g,cap,e,_,_,h1,h2⟩:=h.1.at (by rw[ZaY];omega)
 simp only[Value.slice.injEq,Option.some.injEq,Addr.mk.injEq]at e
 obtain⟨⟨rfl,_⟩,_⟩:=e
 exact⟨by rw[h1 i (by rw[ZaY];omega),Zd3],h2 i⟩
theorem Ztj(c:List Nat)(i x:Nat):(ZaF c).set i ((x:Nat):Int)=ZaF (c.set i x):=by unfold ZaF;rw[List.map_set]
theorem TimS.more{wr:World}{n:Nat}{c:List Nat}(h:TimS w wr n c)(i x:Nat):TimS w (wr.setCell ⟨w.heap.size,i,none⟩ (.int .i64 ((x:Nat):Int))) n (c.set i x):=by
 refine⟨?_,h.2.1.setCell (p:=⟨w.heap.size,i,none⟩) (Nat.le_refl _) _,by rw[World.size_setCell];exact h.2.2⟩
 have:=h.1.stored i ((x:Nat):Int)
 rwa[Ztj]at this
theorem ZqD(n:Nat)(ws:List Int)(k:Nat)(hk:k<ws.length):Zbb n (ws.take (k+1))=if 0≤ws.getD k 0∧ws.getD k 0<(n:Int)then(Zbb n (ws.take k)).set (ws.getD k 0).toNat ((Zbb n (ws.take k)).getD (ws.getD k 0).toNat 0+1)else Zbb n (ws.take k):=by
 have e:ws.take (k+1)=ws.take k++[ws.getD k 0]:=by
  rw[List.take_succ_eq_append_getElem hk]
  simp[List.getD_eq_getElem?_getD,List.getElem?_eq_getElem hk]
 rw[e,Zci]
theorem Zrn(h:shortR rs){r:RV}(hr:r∈rs):r.n≤10∧r.s.size≤1000:=by
 obtain⟨i,hi,rfl⟩:=List.mem_iff_getElem.1 hr
 have:=h i
 rwa[List.getD_eq_getElem?_getD,List.getElem?_eq_getElem hi]at this
theorem ZwY(h:∀r∈rs,r.n≤10∧r.s.size≤1000):shortR rs:=fun i=>by
 by_cases hi:i<rs.length
 ·rw[List.getD_eq_getElem?_getD,List.getElem?_eq_getElem hi]
  exact h _ (List.getElem_mem hi)
 ·rw[List.getD_eq_getElem?_getD,List.getElem?_eq_none (by omega)]
  exact⟨Nat.zero_le _,Nat.zero_le _⟩
theorem Zp7(hr:RowsIn w rs)(h:shortR rs):(vecL rs).length≤10:=Zi7 rs fun r hm=>by rw[(hr r hm).1.1];exact(Zrn h hm).1
theorem OwnP.grownLow{w':World}{B:Nat}{v:Value}{ps:List PKV}(h:OwnP w B v ps)(hg:w.grownBy w' v.ownBlock)(hB:B≤w.heap.size):Below B w w':=Zat hg hB fun k hk=>(World.ownsRow.lt h k hk).1
theorem Zy0(a:Option Addr)(n c:Nat)(ps:List PKV)(a':Option Addr)(m c':Nat)(ws:List Int)(w:World)(h:PksAt w a n ps)(hw:IntzAt w a' m ws)(hn:n≤300)(hm:m≤300):
  Calls Tryz.prog 259 #[.slice a n c,.slice a' m c'] w fun e w'=> ∃v,e=.returned v∧OwnP w' w.heap.size v (atL .dflt ps ws)∧Below w.heap.size w w':=by
 obtain rfl:=h.1
 obtain rfl:=hw.1
 have hmk:=ZeU ps.length (by omega) w
 have HS:=hide (TimS.new w ps.length (by omega))
 have Hh:=hide h
 have HW:=hide hw
 clear h hw
 go_enter Tryz.func259,Tryz.ntmps259
 go_wp2
 go_loopw [16] (fun i wr=> ∃k:Nat,k≤ws.length∧i=.int .i64 k∧Hid (TimS w wr ps.length (Zbb ps.length (ws.take k)))) (fun i _=>ws.length-(intOf i).toNat)
 case atStart=>exact⟨0,Nat.zero_le _,rfl,HS⟩
 case round=>
  obtain⟨k,hk,rfl,HT⟩:=hrel
  clear HS
  by_cases hlt:k<ws.length
  ·obtain⟨b,off,rfl,hcl⟩:=((unhide HW).below (unhide HT).2.1).at hlt
   have hcell:=hcl k hlt
   have hlt':(k:Int)<(ws.length:Int):=by omega
   have HN:=hide (ZqD ps.length ws k hlt)
   have HL:=hide (Zoq ps.length (ws.take k))
   have HLN:=hide (ZdK ps.length (ws.take k))
   generalize ws.getD k 0=i at*
   generalize hQ:Zbb ps.length (ws.take k)=q at*
   clear hcl hQ
   by_cases h0:0≤i
   ·by_cases h1:i<(ps.length:Int)
    ·obtain⟨j,rfl⟩:∃j:Nat,i=(j:Int):=⟨i.toNat,by omega⟩
     have hj:j<ps.length:=by omega
     obtain⟨hc2,hf2⟩:=(unhide HT).cell (unhide HLN) hj
     have hle:q.getD j 0≤300:=by
      have h5:=unhide HL j
      have h6:=List.length_take_le k ws
      omega
     have HE:=hide (show Zbb ps.length (ws.take (k+1))=q.set j (q.getD j 0+1) from by rw[unhide HN,if_pos ⟨h0,h1⟩];rfl)
     generalize q.getD j 0=x at*
     clear HN HL
     go_wp2
     go_roundw
     case rel=>exact⟨k+1,by omega,by go_num,hide (by rw[unhide HE];exact(unhide HT).more j (x+1))⟩
     case measure=>simp[intOf];omega
    ·have HE:=hide (show Zbb ps.length (ws.take (k+1))=q from by rw[unhide HN,if_neg (fun e=>h1 e.2)])
     clear HN HL
     go_wp2
     go_roundw
     case rel=>exact⟨k+1,by omega,by go_num,hide (by rw[unhide HE];exact unhide HT)⟩
     case measure=>simp[intOf];omega
   ·have HE:=hide (show Zbb ps.length (ws.take (k+1))=q from by rw[unhide HN,if_neg (fun e=>h0 e.1)])
    clear HN HL
    go_wp2
    go_roundw
    case rel=>exact⟨k+1,by omega,by go_num,hide (by rw[unhide HE];exact unhide HT)⟩
    case measure=>simp[intOf];omega
  ·have hke:ws.take k=ws:=List.take_of_length_le (by omega)
   rw[hke]at HT
   obtain⟨wo,rfl⟩:∃wo,wo=wr:=⟨wr,rfl⟩
   have HLN:=hide (ZdK ps.length ws)
   have HLE:=hide (Zoq ps.length ws)
   have HAL:=hide (show atTo .dflt ps (Zbb ps.length ws) ps.length=atL .dflt ps ws from rfl)
   generalize Zbb ps.length ws=q at*
   have HC:=hide (fun(wx:World) (hb:Below (w.heap.size+1) wo wx) (t:Nat) (ht:t<ps.length)=>(hb.cell (p:=⟨w.heap.size,t,none⟩) (Nat.lt_succ_self _)).trans ((unhide HT).cell (unhide HLN) ht).1)
   have HB0:=hide (unhide HT).2.1
   have hs0:=(unhide HT).2.2
   clear HT hke HW
   go_wp2
   go_loopw [8,37] (fun o i wx=> ∃t:Nat,∃a1:Option Addr,∃m1 c1:Nat,t≤ps.length∧i=.int .i64 t∧o=.slice a1 m1 c1∧Hid (OwnP wx (w.heap.size+1) (.slice a1 m1 c1) (atTo .dflt ps q t)∧Below (w.heap.size+1) wo wx)) (fun _ i _=>ps.length-(intOf i).toNat)
   case atStart=>exact⟨0,none,0,0,Nat.zero_le _,rfl,rfl,hide ⟨OwnP.nil _ _,Below.refl _ _⟩⟩
   case round=>
    obtain⟨t,a1,m1,c1,ht,rfl,rfl,HR⟩:=hrel
    by_cases htn:t<ps.length
    ·have hcell:=unhide HC _ (unhide HR).2 t htn
     have hR:=(unhide HB0).trans ((unhide HR).2.mono (Nat.le_succ _))
     obtain⟨b,off,rfl,hcl⟩:=(unhide Hh).at htn
     have hbl:b<w.heap.size:=World.block_lt_of_cell? w _ (hcl t htn).1
     obtain⟨hc0,hc1,hc2,hc3,hc4,hc5,hc6⟩:=(hcl t htn).belowB hR hbl
     have htn':(t:Int)<(ps.length:Int):=by omega
     have hsz:w.heap.size+1≤wr.heap.size:=Nat.le_trans hs0 (unhide HR).2.size
     have hlen:(atTo .dflt ps q t).length≤600:=by
      have:∀t,(atTo .dflt ps q t).length≤2*t:=fun t=>by
       induction t with
       |zero=>exact Nat.zero_le _
       |succ t ih=>
        by_cases z:q.getD t 0=0
        ·rw[Zb4 z];omega
        ·by_cases z2:q.getD t 0%2=0
         ·rw[ZaQ z z2];simp only[List.length_append,List.length_singleton];omega
         ·rw[Za0 z z2];simp only[List.length_append,List.length_singleton];omega
      have:=this t
      omega
     clear hR hcl
     have HNO:=hide (fun h=>Zb4 (dd:=.dflt) (l:=ps) (c:=q) (k:=t) h)
     have HEV:=hide (fun h h2=>ZaQ (dd:=.dflt) (l:=ps) (c:=q) (k:=t) h h2)
     have HOD:=hide (fun h h2=>Za0 (dd:=.dflt) (l:=ps) (c:=q) (k:=t) h h2)
     have hx3:=unhide HLE t
     generalize q.getD t 0=x at*
     generalize ps.getD t .dflt=p at*
     generalize hT:atTo .dflt ps q t=us at*
     by_cases z:x=0
     ·subst z
      have HE:=hide (unhide HNO rfl)
      clear HNO HEV HOD
      go_wp2
      go_roundw
      case rel=>exact⟨t+1,a1,m1,c1,by omega,by go_num,rfl,hide (by rw[unhide HE];exact unhide HR)⟩
      case measure=>simp[intOf];omega
     ·have z':¬((x:Int)=0):=by omega
      by_cases z2:x%2=0
      ·have HE:=hide (unhide HEV z z2)
       clear HNO HEV HOD
       have hrem:((x:Nat):Int).tmod 2=0:=by rw[show((x:Nat):Int).tmod 2=((x%2:Nat):Int) from(Int.ofNat_tmod x 2).symm];omega
       go_wp2_with (first|(at_builtin;refine ZdG rfl (.tmp 44) (.tmp 49) rfl (w.heap.size+1) (.slice a1 m1 c1) us p rfl rfl (unhide HR).1 hsz (by omega) ?_;intro g4 c4 w4 ho4 hg4 _;have hb4:=OwnP.grownLow (unhide HR).1 hg4 hsz;obtain⟨m4,hm4⟩:∃m,m=us.length+1:=⟨_,rfl⟩;rw[←hm4]at ho4;rw[←hm4];clear hm4;have HR4:=hide (And.intro ho4 ((unhide HR).2.trans hb4));obtain⟨hd0,hd1,hd2,hd3,hd4,hd5,hd6⟩:=PkCells.belowB (p:=p) ⟨hc0,hc1,hc2,hc3,hc4,hc5,hc6⟩ hb4 (Nat.lt_succ_of_lt hbl);clear ho4 hg4 hb4)|(at_builtin;refine ZdG rfl (.tmp 54) (.tmp 59) rfl (w.heap.size+1) (.slice (some ⟨g4,0,none⟩) m4 c4) (us++[p]) p rfl rfl (unhide HR4).1 (Nat.le_trans hs0 (unhide HR4).2.size) (by simp;omega) ?_;intro g5 c5 w5 ho5 hg5 _;have hb5:=OwnP.grownLow (unhide HR4).1 hg5 (Nat.le_trans hs0 (unhide HR4).2.size);obtain⟨m5,hm5⟩:∃m,m=(us++[p]).length+1:=⟨_,rfl⟩;rw[←hm5]at ho5;rw[←hm5];clear hm5;have HR5:=hide (And.intro ho5 ((unhide HR4).2.trans hb5));clear ho5 hg5 hb5))
       go_roundw
       case rel=>exact⟨t+1,some ⟨g5,0,none⟩,m5,c5,by omega,by go_num,rfl,hide (by rw[unhide HE];exact unhide HR5)⟩
       case measure=>simp[intOf];omega
      ·have HE:=hide (unhide HOD z z2)
       clear HNO HEV HOD
       have hrem:¬((x:Nat):Int).tmod 2=0:=by rw[show((x:Nat):Int).tmod 2=((x%2:Nat):Int) from(Int.ofNat_tmod x 2).symm];omega
       go_wp2_with (first|(at_builtin;refine ZdG rfl (.tmp 44) (.tmp 49) rfl (w.heap.size+1) (.slice a1 m1 c1) us p rfl rfl (unhide HR).1 hsz (by omega) ?_;intro g4 c4 w4 ho4 hg4 _;have hb4:=OwnP.grownLow (unhide HR).1 hg4 hsz;obtain⟨m4,hm4⟩:∃m,m=us.length+1:=⟨_,rfl⟩;rw[←hm4]at ho4;rw[←hm4];clear hm4;have HR4:=hide (And.intro ho4 ((unhide HR).2.trans hb4));clear ho4 hg4 hb4))
       go_roundw
       case rel=>exact⟨t+1,some ⟨g4,0,none⟩,m4,c4,by omega,by go_num,rfl,hide (by rw[unhide HE];exact unhide HR4)⟩
       case measure=>simp[intOf];omega
    ·obtain rfl:t=ps.length:=by omega
     rw[unhide HAL]at HR
     go_wp2
     go_ret
     exact⟨_,rfl,(unhide HR).1.mono (Nat.le_succ _),(unhide HB0).trans ((unhide HR).2.mono (Nat.le_succ _))⟩
end Go.Proofs.YtlhhinlghhjghaaGreatDoor
