/-
  Contracts of upTo and Draws.Distinct. Conditions: at most 128 numbers, at most 2^39 draws used.
  Contracts of encoder.rowOf and Source.Emit: for every source of 1 to 128 blocks and all draws of which at most 2^38 were used.
  Contract of recode.Mix. Conditions: at most 300 packets whose rows have at most 10 words and 1000 bytes, at most 300 places.
-/
import Derived.Test.YtlhhinlghhjghaaGreatDoorU37
import Derived.Test.YtlhhinlghhjghaaGreatDoorU34
import Derived.Test.YtlhhinlghhjghaaGreatDoorU8
import Derived.Test.YtlhhinlghhjghaaGreatDoorU16
import Derived.Test.YtlhhinlghhjghaaGreatDoorU27
import Derived.OneCell
namespace Go.Proofs.YtlhhinlghhjghaaGreatDoor
open Go.RowKit
set_option linter.unusedVariables false
set_option linter.unusedSimpArgs false
set_option maxRecDepth 4000
set_option maxHeartbeats 8000000
variable {g B n:Nat}{w:World}
def upZ(n:Nat):List Int:=ZaF (List.range n)
theorem ZaV(n:Nat):(upZ n).length=n:=by simp[upZ,ZaF]
theorem ZnR(n i:Nat)(h:i<n):(upZ n).getD i 0=(i:Int):=by
 rw[upZ,Zd3]
 simp[List.getD_eq_getElem?_getD,h]
theorem ZpA{tmps:Array Value}{W:World}{u0:Value}(h2:tmps.getD 2 undef=.pointer (some ⟨g,0,none⟩))(hq:Bk1 338 W g u0):
  (results Tryz.f250 tmps).run Tryz.prog W=.ok (.agg #[u0]) W:=by
 have k0:=hq.at0
 have h2':tmps[2]?.getD undef=.pointer (some ⟨g,0,none⟩):=by simpa using h2
 simp[results,Tryz.results250,go_sem,h2',k0]
theorem ZvJ(n:Nat)(hn:n≤1048576)(w:World):
  Calls Tryz.prog 250 #[.int .i64 (n:Int)] w fun e w'=> ∃b,e=.returned (.agg #[.slice (some ⟨b,0,none⟩) n n])∧OwnZ w' w.heap.size (.slice (some ⟨b,0,none⟩) n n) (upZ n)∧Below w.heap.size w w':=by
 have hmk:=ZeU n hn (w.alloc (.cells #[.slice none 0 0] 338))
 have hO:=Zfh (w.alloc (.cells #[.slice none 0 0] 338)) n hn (List.replicate n 0) rfl
 have HP:=hide (Zuz 338 w (.slice none 0 0))
 have hsz:=Zab w (.cells #[.slice none 0 0] 338)
 have hb1:Below w.heap.size w (w.alloc (.cells #[.slice none 0 0] 338)):=(Below.refl _ _).alloc (Nat.le_refl _) _
 rw[hsz]at hO hmk
 have hO0:OwnZ ((w.alloc (.cells #[.slice none 0 0] 338)).alloc (.cells (madeCells #[.int .i64 0] n) 3)) (w.heap.size+1) (.slice (some ⟨w.heap.size+1,0,none⟩) n n) (Za3 (upZ n) 0):=by
  rw[ZdV,ZaV];exact hO
 have HO:=hide hO0
 have HB:=hide (hb1.alloc hb1.size (.cells (madeCells #[.int .i64 0] n) 3))
 have HQ:=hide ((unhide HP).belowB ((Below.refl (w.heap.size+1) (w.alloc (.cells #[.slice none 0 0] 338))).alloc (by rw[hsz];exact Nat.le_refl _) (.cells (madeCells #[.int .i64 0] n) 3)) (Nat.lt_succ_self _))
 clear hO hO0 hb1 HP
 go_enter Tryz.func250,Tryz.ntmps250
 go_wp2
 go_loopw [9] (fun i wr=> ∃k:Nat,k≤n∧i=.int .i64 k∧Hid (OwnZ wr (w.heap.size+1) (.slice (some ⟨w.heap.size+1,0,none⟩) n n) (Za3 (upZ n) k)∧Bk1 338 wr w.heap.size (.slice none 0 0)∧Below w.heap.size w wr)) (fun i _=>n-(intOf i).toNat)
 case atStart=>exact⟨0,Nat.zero_le _,rfl,hide ⟨unhide HO,unhide HQ,unhide HB⟩⟩
 case round=>
  obtain⟨k,hk,rfl,HR⟩:=hrel
  clear HO HQ HB
  by_cases hlt:k<n
  ·obtain⟨g,cap,e,_,hgs,hc,hf⟩:=(unhide HR).1.at (by rw[ZbQ _ _ (by rw[ZaV];exact hk),ZaV];omega)
   have he:g=w.heap.size+1:=by
    simp only[Value.slice.injEq,Option.some.injEq,Addr.mk.injEq,and_true]at e
    exact e.1.symm
   subst he
   have hcell:=hc k (by rw[ZbQ _ _ (by rw[ZaV];exact hk),ZaV];omega)
   have hfz:=hf k
   have hO2:=(unhide HR).1.stored k (k:Int)
   rw[←ZnR n k hlt,ZdP _ _ (by rw[ZaV];exact hlt),ZnR n k hlt]at hO2
   have HR2:=hide (show _∧_∧_ from⟨hO2,(unhide HR).2.1.kept (Zad wr (w.heap.size+1) k (.int .i64 (k:Int))) (fun e=>by have:=Option.some.inj e;omega),(unhide HR).2.2.setCell (p:=⟨w.heap.size+1,k,none⟩) (by show w.heap.size≤w.heap.size+1;omega) (.int .i64 (k:Int))⟩)
   clear hc hf hO2 HR e
   go_wp2
   go_roundw
   case rel=>exact⟨k+1,by omega,by go_num,hide (unhide HR2)⟩
   case measure=>simp[intOf];omega
  ·obtain rfl:k=n:=by omega
   obtain⟨h1,h2,h3⟩:=unhide HR
   have h20:=h2.at0
   have h2f:=h2.frz 0
   have hfin:=ZeB (upZ k)
   rw[ZaV]at hfin
   rw[hfin]at h1
   have HF:=hide (show _∧_∧_ from⟨(show OwnZ _ _ _ _ from h1.kept (Zad _ w.heap.size 0 (.slice (some ⟨w.heap.size+1,0,none⟩) k k)) (Nat.lt_succ_self _)),h2.set0 (.slice (some ⟨w.heap.size+1,0,none⟩) k k),h3.setCell (p:=⟨w.heap.size,0,none⟩) (Nat.le_refl _) (.slice (some ⟨w.heap.size+1,0,none⟩) k k)⟩)
   clear HR h1 h2 h3 hfin
   go_wp2
   exact bodyPost_ret (ZpA rfl (unhide HF).2.1) rfl ⟨_,rfl,(unhide HF).1.mono (Nat.le_succ _),(unhide HF).2.2⟩
theorem Zyo(k:Int)(n:Nat):∃m:Int,(∀(ts:Array TypeId) (t:TypeId) (w:World),(Builtin.min_ ts t #[.int .i64 k,.int .i64 (n:Int)]).run Tryz.prog w=.ok (.int .i64 m) w)∧∀i:Nat,(i:Int)<m↔i<min k.toNat n:=by
 refine⟨if (n:Int)<k then(n:Int)else k,fun ts t w=>by rw[run_min_int2],fun i=>?_⟩
 split<;>omega
theorem OwnZ.lt'{v:Value}{xs:List Int}(h:OwnZ w B v xs){k:Nat}(hk:v.ownBlock=some k):B≤k:=(World.ownsRow.lt h k hk).1
theorem Zy9{b:Nat}(h:OwnZ w B (.slice (some ⟨b,0,none⟩) n n) (upZ n))(hn:n≤1048576):
  SupAt (w.alloc (.cells #[.slice (some ⟨b,0,none⟩) n n] 338)) w.heap.size B (w.heap.size+1) (upZ n):=by
 have h0:w.ownsRow B 3 1 (.slice (some ⟨b,0,none⟩) n n) n (cellsZ (upZ n)):=by
  have h':=h
  unfold OwnZ at h'
  rwa[ZaV]at h'
 rcases h0.2 with⟨e,_⟩|⟨g,cap,cur,e,hb,hg,hn1,hm,hsz,ht⟩
 ·simp at e
 ·simp only[Value.slice.injEq,Option.some.injEq,Addr.mk.injEq,and_true]at e
  obtain⟨rfl,_,_⟩:=e
  have hlt:=(Array.getElem?_eq_some_iff.1 hg).1
  have hal:(w.alloc (.cells #[.slice (some ⟨b,0,none⟩) n n] 338)).heap[b]? =w.heap[b]? :=Below.heap_alloc _ _ _ hlt
  refine⟨b,0,n,by rw[ZaV];exact Zuz _ _ _,by rw[ZaV];exact Nat.le_refl _,hn,⟨hb,by omega,by omega,by omega,by omega⟩,fun i hi=>?_,fun i=>?_⟩
  ·rw[Nat.zero_add,World.cell?_of_block (a:=⟨b,i,none⟩) hal,h0.cellAt i (by rw[ZaV]at hi;omega),Zbm _ i hi]
  ·rw[World.frozen?_of_block (a:=⟨b,i,none⟩) hal]
   exact h0.frozenAt i
theorem Zj5(g B:Nat)(L:List Nat)(N n:Nat)(k:Int)(w:World)(h:DrAt w g B L N)(hB:B≤w.heap.size)(hN:N≤549755813888)(hn:n≤128):
  Calls Tryz.prog 223 #[.pointer (some ⟨g,0,none⟩),.int .i64 (n:Int),.int .i64 k] w fun e w'=> ∃v,e=.returned v∧OwnZ w' w.heap.size v (ZaF (Zc2 L N n (min k.toNat n)))∧DrAt w' g B L (N+min k.toNat n)∧w.grownBy w' (some g):=by
 obtain⟨m,hmin,hm⟩:=Zyo k n
 have hgB:=h.1
 have hrn:min k.toNat n≤n:=Nat.min_le_right _ _
 generalize min k.toNat n=r at*
 have HU:=hide (ZvJ n (by omega) w)
 have h0:¬((n:Int)<0):=by omega
 have h1:¬((128:Int)<(n:Int)):=by omega
 have HD:=hide h
 have HM:=hide hm
 clear h hm
 go_enter Tryz.func223,Tryz.ntmps223
 go_wp2_with (go_at_call 250;refine(unhide HU).mono ?_;rintro e w1 ⟨b,rfl,hO1,hb1⟩;have HO1:=hide hO1;have HB1:=hide hb1;clear hO1 hb1)
 go_loopw [8,25] (fun t i wr=> ∃q:Nat,q≤r∧i=.int .i64 q∧Hid (OwnZ wr (w1.heap.size+1) t (ZaF (Zcw L N (List.range n) q))∧SupAt wr w1.heap.size w.heap.size (w1.heap.size+1) (ZaF (ZbD L N (List.range n) q))∧DrAt wr g B L (N+q)∧w.grownBy wr (some g)∧w1.heap.size+1≤wr.heap.size)) (fun _ i _=>r-(intOf i).toNat)
 case atStart=>
  have hb1:=unhide HB1
  have hA:Below w.heap.size w1 (w1.alloc (.cells #[.slice (some ⟨b,0,none⟩) n n] 338)):=(Below.refl _ _).alloc hb1.size _
  exact⟨0,Nat.zero_le _,rfl,hide ⟨OwnZ.nil _ _,Zy9 (unhide HO1) (by omega),(unhide HD).below ((hb1.trans hA).mono hB),Zai (hb1.trans hA) _,by rw[Zab];exact Nat.le_refl _⟩⟩
 case round=>
  obtain⟨q,hq,rfl,HR⟩:=hrel
  have hw1:w.heap.size≤w1.heap.size:=(unhide HB1).size
  have hqm:=unhide HM q
  by_cases hlt:q<r
  ·have hqm':(q:Int)<m:=hqm.2 hlt
   obtain⟨hO,hS,hD,hG,hZ⟩:=unhide HR
   have hll:=ZdB L N (List.range n) q (by rw[List.length_range];omega)
   rw[List.length_range]at hll
   obtain⟨b',off,c,k1,k2,k3,k4,k5,k6⟩:=hS
   have HS:=hide (show SupAt wr w1.heap.size w.heap.size (w1.heap.size+1) (ZaF (ZbD L N (List.range n) q)) from⟨b',off,c,k1,k2,k3,k4,k5,k6⟩)
   have k0:=k1.at0
   rw[ZaY,hll]at k0
   have HX:=hide (Zky g B L (N+q) (n-q) wr hD (by omega) (by omega) (by omega))
   have hj:Zbg L (N+q+1)%(n-q)<n-q:=Nat.mod_lt _ (by omega)
   have HP:=hide (show Zcw L N (List.range n) (q+1)=Zcw L N (List.range n) q++[(ZbD L N (List.range n) q).getD (Zbg L (N+q+1)%(n-q)) 0] from by show Zcw L N (List.range n) q++_=_;rw[hll])
   have HL:=hide (show ZbD L N (List.range n) (q+1)=(ZbD L N (List.range n) q).eraseIdx (Zbg L (N+q+1)%(n-q)) from by show(ZbD L N (List.range n) q).eraseIdx _=_;rw[hll])
   have hxv:(ZaF (ZbD L N (List.range n) q)).getD (Zbg L (N+q+1)%(n-q)) 0=(((ZbD L N (List.range n) q).getD (Zbg L (N+q+1)%(n-q)) 0:Nat):Int):=Zd3 _ _
   have hT:∀w2,SupAt w2 w1.heap.size w.heap.size (w1.heap.size+1) (ZaF (ZbD L N (List.range n) q))→w1.heap.size+1≤w2.heap.size→Calls Tryz.prog 251 #[.pointer (some ⟨w1.heap.size,0,none⟩),.int .i64 ((Zbg L (N+q+1)%(n-q):Nat):Int)] w2 fun e w'=>
     e=.returned (.int .i64 (((ZbD L N (List.range n) q).getD (Zbg L (N+q+1)%(n-q)) 0:Nat):Int))∧SupAt w' w1.heap.size w.heap.size (w1.heap.size+1) (ZaF (ZbD L N (List.range n) (q+1)))∧Mid w.heap.size (w1.heap.size+1) w2 w':=by
    intro w2 hs2 hz2
    have:=ZsN w1.heap.size w.heap.size (w1.heap.size+1) (Zbg L (N+q+1)%(n-q)) _ w2 hs2 (by rw[ZaY,hll];exact hj) hz2
    rw[hxv,←ZmB,←unhide HL]at this
    exact this
   have HT:=hide hT
   have HO:=hide hO
   have HG:=hide hG
   have HPL:=hide (Zcb L N (List.range n) q)
   clear k1 k2 k3 k4 k5 k6 hD hO hG hj hll HR hqm HO1 HB1 HU HD hT hxv HL
   generalize (ZbD L N (List.range n) q).getD (Zbg L (N+q+1)%(n-q)) 0=x at*
   generalize Zbg L (N+q+1)%(n-q)=j at*
   go_wp2_with (first|(go_at_call 227;refine(unhide HX).mono ?_;rintro e w2 ⟨rfl,hD2,hG2⟩;have HS2:=hide ((unhide HS).kept hG2 (by omega) hZ);have HO2:=hide ((unhide HO).kept hG2 (by have:=hG2.size;omega));have HG2:=hide (gb_trans (unhide HG) hG2 (.inl rfl));have HD2:=hide hD2;have HZ2:=hide (Nat.le_trans hZ hG2.size);clear hD2 hG2)|(go_at_call 251;refine(unhide HT _ (unhide HS2) (unhide HZ2)).mono ?_;rintro e w3 ⟨rfl,hS3,hM3⟩;have HS3:=hide hS3;have HM3:=hide hM3;have HO3:=hide ((unhide HO2).mid hM3);have HZ3:=hide (Nat.le_trans (unhide HZ2) hM3.size);clear hS3 hM3)|(at_builtin;refine Zf3 rfl _ _ rfl (w1.heap.size+1) u8 _ (x:Int) rfl rfl (unhide HO3) (unhide HZ3) (by rw[ZaY,unhide HPL];omega) ?_;intro s4 w4 ho4 hb4;have HO4:=hide ho4;have HB4:=hide hb4;clear ho4 hb4))
   go_roundw
   case rel=>
    have hsz2:w.heap.size≤w2.heap.size:=(unhide HG2).size
    have hbm:Below w.heap.size w2 w3:=(unhide HM3).below hsz2
    have hb3:Below w.heap.size w2 w4:=hbm.trans ((unhide HB4).mono (by omega))
    refine⟨q+1,by omega,by go_num,hide ⟨?_,(unhide HS3).below (unhide HB4),(unhide HD2).below (hb3.mono hB),ZfP (unhide HG2) hb3,Nat.le_trans (unhide HZ3) (unhide HB4).size⟩⟩
    rw[unhide HP,Zgf]
    exact unhide HO4
   case measure=>simp[intOf];omega
  ·have hqm':¬((q:Int)<m):=fun h=>hlt (hqm.1 h)
   obtain rfl:q=r:=by omega
   obtain⟨hO,hS,hD,hG,hZ⟩:=unhide HR
   have HSo:=hide (Znl (w1.heap.size+1) u8 _ wr hO (by rw[ZaY,Zcb];omega))
   rw[Zt7 L N n q hrn]at HSo
   have HO:=hide hO
   have HG:=hide hG
   have HD:=hide hD
   have HZ:=hide hZ
   clear hO hS hD hG hZ HR hqm HO1 HB1 HU
   go_wp2_with (go_at_call 252;refine(unhide HSo).mono ?_;rintro e w5 ⟨rfl,hO5,hG5⟩)
   go_ret
   have hb5:Below (w1.heap.size+1) wr w5:=Zat hG5 (unhide HZ) (fun k hk=>((unhide HO).lt' hk))
   exact⟨_,rfl,hO5.mono (by omega),(unhide HD).below (hb5.mono (by omega)),ZfP (unhide HG) (hb5.mono (by omega))⟩
def Is{α:Type}(a b:α):Prop:=a=b
theorem Is.eq{α:Type}{a b:α}(h:Is a b):a=b:=h
theorem OwnZ.atB{a:Option Addr}{c:Nat}{xs:List Int}(h:OwnZ w B (.slice a n c) xs):IntzAt w a n xs:=by
 obtain⟨a1,c1,e,hi⟩:=h.ints
 simp only[Value.slice.injEq]at e
 obtain⟨rfl,rfl,rfl⟩:=e
 exact hi
theorem Own.atB{a:Option Addr}{c:Nat}{xs:List Nat}(h:Own w B (.slice a n c) xs):RowAt w a n xs:=by
 obtain⟨a1,c1,e,hi⟩:=h.row
 simp only[Value.slice.injEq]at e
 obtain⟨rfl,rfl,rfl⟩:=e
 exact hi
theorem ZAW(w:World)(n:Nat)(hn:n≤1048576):
  Own (w.alloc (.cells (madeCells #[.int .u64 0] n) 69)) w.heap.size (.slice (some ⟨w.heap.size,0,none⟩) n n) (List.replicate n 0):=by
 refine⟨Zj8 n,by simp[cellsU],.inr ⟨w.heap.size,n,madeCells #[.int .u64 0] n,by simp,Nat.le_refl _,heap_alloc_new w _,by simp,by unfold maxLen;omega,by simp[size_madeCells],?_⟩⟩
 rw[toList_madeCells_one,List.take_of_length_le (by simp)]
 simp[cellsU]
theorem Zxo(xs:List Nat)(i:Nat)(on:Bool):setI xs (i:Int) on=setB xs i on:=by
 unfold setI
 rw[if_neg (by omega),Int.toNat_natCast]
theorem ZtT(k:Nat)(a:Option Addr)(n c:Nat)(ns:List Nat)(w:World)(h:IntzAt w a n (ZaF ns))(hn:n≤1048576)(hb:∀i,ns.getD i 0≤1048576):
  Calls Tryz.prog 222 #[.int .i64 (k:Int),.slice a n c] w fun e w'=> ∃v,e=.returned v∧Own w' w.heap.size v (rowL k ns)∧Below w.heap.size w w':=by
 have hln:ns.length=n:=by rw[←h.1,ZaY]
 have hm2:=Zas (k:Int)
 have HZ:=hide (Zcd (k:Int) w)
 have HL:=hide (fun j=>Zc7 k (ns.take j))
 have hO:=ZAW w (sizeOfK (k:Int)) (by omega)
 rw[←ZuO k,show([]:List Nat)=ns.take 0 from rfl]at hO
 have hb0:Below w.heap.size w (w.alloc (.cells (madeCells #[.int .u64 0] (sizeOfK (k:Int))) 69)):=(Below.refl _ _).alloc (Nat.le_refl _) _
 have hmk:=ZxY (sizeOfK (k:Int)) (by omega) w
 have HO:=hide hO
 have HB:=hide hb0
 have HI:=hide h
 have HN:=hide hln
 have HC:=hide hb
 have HT:=hide (fun j hj=>Zrm k ns j hj)
 clear hO hb0 h hln hb
 generalize sizeOfK (k:Int)=m at*
 generalize w.alloc (.cells (madeCells #[.int .u64 0] m) 69)=w0 at*
 go_enter Tryz.func222,Tryz.ntmps222
 go_wp2_with (go_at_call 177;refine(unhide HZ).mono ?_;rintro e w1 ⟨rfl,hw⟩;obtain rfl:=hw.symm;clear hw)
 go_loopw [5,13] (fun v i wr=> ∃(j:Nat) (b:Option Addr) (cc:Nat),j≤n∧i=.int .i64 j∧v=.slice b m cc∧Hid (Own wr w.heap.size (.slice b m cc) (rowL k (ns.take j))∧Below w.heap.size w wr)) (fun _ i _=>n-(intOf i).toNat)
 case atStart=>exact⟨0,_,_,Nat.zero_le _,rfl,rfl,hide ⟨unhide HO,unhide HB⟩⟩
 case round=>
  rename_i wr
  obtain⟨j,b,cc,hj,rfl,rfl,HR⟩:=hrel
  clear HO HB hmk HZ
  by_cases hlt:j<n
  ·have hlt':(j:Int)<(n:Int):=by omega
   obtain⟨b',off,rfl,hc⟩:=((unhide HI).below (unhide HR).2).at hlt
   have hcell:=hc j hlt
   rw[Zd3]at hcell
   have hx:=unhide HC j
   have HS:=hide (Zsl b m cc _ ((ns.getD j 0:Nat):Int) true wr (unhide HR).1.atB (by omega) (by omega))
   rw[Zxo,←unhide HT j (by rw[unhide HN];exact hlt)]at HS
   generalize ns.getD j 0=x at*
   clear hc
   go_wp2_with fail
   refine(unhide HS).mono ?_
   rintro e w2 ⟨v2,rfl,ho2,hb2⟩
   obtain⟨b2,c2,rfl, -⟩:=ho2.row
   rw[unhide HL]at ho2⊢
   have HR2:=hide (show _∧_ from⟨ho2.mono (unhide HR).2.size,below0 (unhide HR).2 hb2⟩)
   clear ho2 hb2 HR hcell HS
   go_wp2
   go_roundw
   case rel=>exact⟨j+1,b2,c2,by omega,by go_num,rfl,HR2⟩
   case measure=>simp[intOf];omega
  ·obtain rfl:j=n:=by omega
   have he:ns.take j=ns:=List.take_of_length_le (by rw[unhide HN];exact Nat.le_refl _)
   rw[he]at HR
   clear he HI HN HC HT HL
   go_wp2
   go_ret
   exact⟨_,rfl,(unhide HR).1,(unhide HR).2⟩
theorem PkB.kept{w':World}{v0 v1 v2 v3 v4 v5 v6:Value}{row:Option Nat}(h:PkB w g v0 v1 v2 v3 v4 v5 v6)(hg:w.grownBy w' row)(hne:some g≠row):PkB w' g v0 v1 v2 v3 v4 v5 v6:=(hg.block g h.lt hne).trans h
theorem DrAt.blk{L:List Nat}{N:Nat}(h:DrAt w g B L N):∃a n c,Bk2 245 w g (.slice a n c) (.int .i64 (N:Int)):=by
 obtain⟨h1,h2,a,n,c,h3,_⟩:=h
 exact⟨a,n,c,h3⟩
theorem SrcAt.drawn{w':World}{gd:Nat}{o l z:Int}{s:Nat}{ss:List ByteArray}{L:List Nat}{N:Nat}(h:SrcAt w g o l z s ss)(hg:w.grownBy w' (some gd))(hd:DrAt w gd B L N):SrcAt w' g o l z s ss:=by
 obtain⟨a,n,c,hb⟩:=hd.blk
 exact h.kept hg hb
theorem Zk9{tmps:Array Value}{W:World}{u0 u1 u2 u3 u4 u5 u6:Value}(h2:tmps.getD 4 undef=.pointer (some ⟨g,0,none⟩))(hq:PkB W g u0 u1 u2 u3 u4 u5 u6):
  (results Tryz.f189 tmps).run Tryz.prog W=.ok (.agg #[u0,u1,u2,u3,u4,u5,u6]) W:=by
 obtain⟨k0,k1,k2,k3,k4,k5,k6⟩:=hq.at
 have h2':tmps[4]?.getD undef=.pointer (some ⟨g,0,none⟩):=by simpa using h2
 simp[results,Tryz.results189,go_sem,h2',k0,k1,k2,k3,k4,k5,k6]
theorem ZvK(g gd B:Nat)(o l z:Int)(s k:Nat)(ss:List ByteArray)(L:List Nat)(N:Nat)(w:World)(hsrc:SrcAt w g o l z s ss)(hk:ss.length=k)(h1:1≤k)(h2:k≤128)(hs:s≤k)(hsh:shorts ss)(ht:PTab w)
  (hd:DrAt w gd B L N) (hB:B≤w.heap.size) (hN:N≤274877906944):
  Calls Tryz.prog 189 #[.pointer (some ⟨g,0,none⟩),.pointer (some ⟨gd,0,none⟩)] w fun e w'=> ∃a c,e=.returned (.agg #[.int .i64 o,.int .i64 l,.int .i64 (k:Int),.int .i64 z,.int .i64 0,.slice a (sizeOfK (k:Int)) c,.string (st (ofL ss (ZdC k s L N) k))])∧
   RowAt w' a (sizeOfK (k:Int)) (ZdC k s L N)∧DrAt w' gd B L (Zz7 k s L N)∧w.grownBy w' (some gd):=by
 have hgd:=hd.1
 have hL:=hd.2.1
 have B0:=hide (Zaf w (.cells #[.int .i64 0,.int .i64 0,.int .i64 0,.int .i64 0,.int .i64 0,.slice none 0 0,.string ⟨#[]⟩] 59))
 have X0:=hide (ZaG w (.int .i64 0) (.int .i64 0) (.int .i64 0) (.int .i64 0) (.int .i64 0) (.slice none 0 0) (.string ⟨#[]⟩))
 have S0:=hide (hsrc.below (unhide B0))
 have D0:=hide (hd.below ((unhide B0).mono hB))
 have hgw:w.heap.size≠g:=by
  obtain⟨a,c,⟨k0,_⟩,_⟩:=hsrc
  exact Nat.ne_of_gt (World.block_lt_of_cell? w ⟨g,0,none⟩ k0)
 have HT:=hide (Zuf k s h1 h2 hs _ (ht.below (unhide B0)))
 have HK:=hide (ZA8 g o l z s ss _ (unhide S0))
 rw[hk]at HK
 have hspr:=(show _ from(unhide S0))
 obtain⟨_,_,⟨_,_,_,_,hspr⟩,_⟩:=hspr
 have HHK:=hide hk
 have HSH:=hide hsh
 have hdin:=Zmc k s L N h1 (by omega)
 have HNX:Is (Zz7 k s L N) (N+1+degL k s L N):=rfl
 have HV:Is (ZdC k s L N) (rowL k (Zc2 L (N+1) k (degL k s L N))):=rfl
 have HPK:=hide (fun a c wx (hi:IntzAt wx a k (tableL k s))=>(show Calls Tryz.prog 219 #[.slice a k c,.int .u64 ((Zbg L (N+1):Nat):Int)] wx fun e w'=>e=.returned (.int .i64 ((degL k s L N:Nat):Int))∧w'=wx from ZtG a k c (tableL k s) (Zbg L (N+1)) wx hi (by omega) (by have:=ZpH k s h2 (by omega);omega) (ZmW hL _)))
 have HNE:=hide (fun wx hd=>Zj0 gd B L N wx hd (by omega))
 have HDI:=hide (fun wx hd hb=>Zj5 gd B L (N+1) k ((degL k s L N:Nat):Int) wx hd hb (by omega) h2)
 rw[Zzs k s L N h1 (by omega)]at HDI
 have HLL:=hide (Zgd L (N+1) k (degL k s L N) hdin.2)
 have HNB:=hide (show∀i,(Zc2 L (N+1) k (degL k s L N)).getD i 0≤1048576 from fun i=>by
  by_cases hi:i<(Zc2 L (N+1) k (degL k s L N)).length
  ·have:=ZxB L (N+1) k (degL k s L N) i hi
   omega
  ·rw[ZaS (by omega)];omega)
 have HVL:=hide (Zmo k s L N)
 have hm2:=Zas (k:Int)
 have HTL:=hide (Zbo k s)
 clear hsrc hd ht hk hsh hL
 generalize ZdC k s L N=vs at*
 generalize Zz7 k s L N=nn at*
 generalize degL k s L N=dg at*
 generalize Zbg L (N+1)=x at*
 generalize Zc2 L (N+1) k dg=ns at*
 generalize tableL k s=tb at*
 generalize sizeOfK (k:Int)=m at*
 have hdg:dg≤128:=by omega
 clear hdin
 go_enter Tryz.func189,Tryz.ntmps189
 go_wp2_with (first
  |(go_at_call 218;refine(unhide HK).mono ?_;rintro e w' ⟨rfl,hw⟩;obtain rfl:=hw.symm;clear hw)
  |(go_at_call 220;refine(unhide HT).mono ?_;rintro e w1 ⟨v1,rfl,ho1,hb1⟩;obtain⟨a1,c1,rfl,hi1⟩:=ho1.ints;rw[unhide HTL]at ho1 hi1⊢;have HO1:=hide ho1;have HI1:=hide hi1;have B1:=hide (below0 (unhide B0) hb1);have S1:=hide ((unhide S0).below hb1);have X1:=hide ((unhide X0).below hb1);have D1:=hide ((unhide D0).below (hb1.mono (by rw[Zab];omega)));have Z1:=hide hb1.size;clear ho1 hi1 hb1)
  |(go_at_call 221;refine(unhide HNE _ (unhide D1)).mono ?_;rintro e w2 ⟨rfl,hd2,hg2⟩;have HO2:=hide ((unhide HO1).kept hg2 (by rw[Zab];omega)).atB;have S2:=hide ((unhide S1).drawn hg2 (unhide D1));have X2:=hide ((unhide X1).kept hg2 (fun e=>by have:=Option.some.inj e;omega));have D2:=hide hd2;have G2:=hide (gb_trans (Zai (unhide B1) (some gd)) hg2 (.inl rfl));clear hd2 hg2)
  |(go_at_call 219;refine(unhide HPK _ _ _ (unhide HO2)).mono ?_;rintro e w' ⟨rfl,hw⟩;obtain rfl:=hw.symm;clear hw)
  |(go_at_call 223;refine(unhide HDI _ (unhide D2) (Nat.le_trans hB (unhide G2).size)).mono ?_;rintro e w3 ⟨v3,rfl,ho3,hd3,hg3⟩;obtain⟨a3,c3,rfl,hi3⟩:=ho3.ints;rw[ZaY,unhide HLL]at hi3⊢;have HI3:=hide hi3;have S3:=hide ((unhide S2).drawn hg3 (unhide D2));have X3:=hide ((unhide X2).kept hg3 (fun e=>by have:=Option.some.inj e;omega));have D3:=hide hd3;have G3:=hide (gb_trans (unhide G2) hg3 (.inl rfl));clear ho3 hi3 hd3 hg3)
  |(go_at_call 222;refine(ZtT k a3 dg c3 ns _ (unhide HI3) (by omega) (unhide HNB)).mono ?_;rintro e w4 ⟨v4,rfl,ho4,hb4⟩;rw[←HV.eq]at ho4;obtain⟨a4,c4,rfl,hr4⟩:=ho4.row;rw[unhide HVL]at ho4 hr4⊢;have HO4:=hide ho4;have HR4:=hide hr4;have S4:=hide ((unhide S3).below hb4);have X4:=hide ((unhide X3).below hb4);have D4:=hide ((unhide D3).below (hb4.mono (Nat.le_trans hB (unhide G3).size)));have G4:=hide (ZfP (unhide G3) (hb4.mono (unhide G3).size));have Z3:=hide (unhide X3).lt;clear ho4 hr4 hb4))
 obtain⟨at4,ct4,⟨k0,k1,k2,k3,_⟩,ht4⟩:=unhide S4
 rw[unhide HHK]at k3 ht4
 have HOF:=hide (fun wx (hb:Below w4.heap.size w4 wx)=>Zya at4 k ct4 ss a4 m c4 vs wx (ht4.below hb) (unhide HSH) (by omega) ((unhide HR4).below hb) (by omega))
 clear ht4 HT HK HPK HNE HDI HTL HV HLL HNB HO1 HI1 B1 S1 X1 D1 Z1 HO2 S2 X2 D2 G2 HI3 S3 X3 D3 G3 S0 D0 X0
 have hglt:g<w4.heap.size:=World.block_lt_of_cell? w4 ⟨g,0,none⟩ k0
 go_region_held (fun w'=>w'.cell? ⟨g,0,none⟩=some (.int .i64 o)∧w'.cell? ⟨g,1,none⟩=some (.int .i64 l)∧w'.cell? ⟨g,2,none⟩=some (.int .i64 z)∧w'.cell? ⟨g,3,none⟩=some (.slice at4 k ct4)) (go_keep)
  (first|(go_at_call 224;refine(unhide HOF _ (Below.refl _ _).drew).mono ?_;rintro e w5 ⟨rfl,hb5⟩;have hb45:Below w4.heap.size w4 w5:=(Below.refl _ _).drew.trans hb5;have q0:=(hb45.cell (p:=⟨g,0,none⟩) hglt).trans k0;have q1:=(hb45.cell (p:=⟨g,1,none⟩) hglt).trans k1;have q2:=(hb45.cell (p:=⟨g,2,none⟩) hglt).trans k2;have q3:=(hb45.cell (p:=⟨g,3,none⟩) hglt).trans k3;have x5:=(unhide X4).below hb45;obtain⟨y0,y1,y2,y3,y4,y5,y6⟩:=x5.at;have f0:=x5.frz 0;have f1:=x5.frz 1;have f2:=x5.frz 2;have f3:=x5.frz 3;have f4:=x5.frz 4;have f5:=x5.frz 5;have f6:=x5.frz 6;have X5:=hide x5;have HB5:=hide hb45;clear x5 hb45 hb5))
 go_wp2
 have hw4:w.heap.size≤w4.heap.size:=(unhide G4).size
 refine bodyPost_ret (Zk9 rfl ((unhide X5).sets (.int .i64 o) (.int .i64 l) (.int .i64 (k:Int)) (.int .i64 z) (.int .i64 0) (.slice a4 m c4) (.string (st (ofL ss vs k))))) rfl
  ⟨a4,c4,rfl,((unhide HR4).below (unhide HB5)).other7 (fun ad ha hm=>?_) _ _ _ _ _ _ _,?_,ZfP (unhide G4) (Zbd ((unhide HB5).mono hw4) (Nat.le_refl _) _ _ _ _ _ _ _)⟩
 ·have h1:=(unhide HO4).apart ad ha hm
  have h2:=unhide Z3
  omega
 ·rw[HNX.eq]
  exact(unhide D4).below (Zbd ((unhide HB5).mono (Nat.le_trans hB hw4)) hB _ _ _ _ _ _ _)
end Go.Proofs.YtlhhinlghhjghaaGreatDoor
namespace Go.Proofs.YtlhhinlghhjghaaGreatDoor
open Go.RowKit Go.Sort
set_option linter.unusedVariables false
set_option linter.unusedSimpArgs false
set_option maxRecDepth 4000
set_option maxHeartbeats 8000000
variable {g:Nat}{w:World}
def ZAX:Value:=.agg #[.int .i64 0,.int .i64 0,.int .i64 0,.int .i64 0,.int .i64 0,.slice none 0 0,.string ⟨#[]⟩]
def MixR(w w':World)(o:Option PD)(e:Ending):Prop:=Below w.heap.size w w'∧match o with
 |none=>e=.returned (.tuple #[ZAX,.bool false])
 |some d=> ∃q:PKV,q.pd=d∧e=.returned (.tuple #[q.val,.bool true])∧Own w' w.heap.size (.slice q.r.a q.r.n q.r.c) q.r.xs
theorem MixR.no{w':World}{o:Option PD}(ho:o=none)(hb:Below w.heap.size w w'):MixR w w' o (.returned (.tuple #[ZAX,.bool false])):=by
 subst ho
 exact⟨hb,rfl⟩
theorem MixR.yes{w':World}{o:Option PD}{d:PD}{q:PKV}(ho:o=some d)(hq:q.pd=d)(hb:Below w.heap.size w w')(hown:Own w' w.heap.size (.slice q.r.a q.r.n q.r.c) q.r.xs):MixR w w' o (.returned (.tuple #[q.val,.bool true])):=by
 subst ho
 exact⟨hb,q,hq,rfl,hown⟩
theorem Own.off{B:Nat}{v:Value}{xs:List Nat}(h:Own w B v xs)(hg:∀j,v.ownBlock=some j→j≠g)(i:Nat)(u:Value):Own (w.setCell ⟨g,i,none⟩ u) B v xs:=⟨h.1,ownsRow_setCell_other h.2 (fun e=>hg g e rfl) u⟩
theorem ZhG{X:World}{tmps:Array Value}{o l k z h:Int}{a:Option Addr}{n c:Nat}{s:ByteArray}{b:Bool}(ht:tmps.getD 4 undef=.pointer (some ⟨g,0,none⟩))(h5:tmps.getD 5 undef=.bool b)(hk:PkB X g (.int .i64 o) (.int .i64 l) (.int .i64 k) (.int .i64 z) (.int .i64 h) (.slice a n c) (.string s)):
  (results Tryz.f228 tmps).run Tryz.prog X=.ok (.tuple #[.agg #[.int .i64 o,.int .i64 l,.int .i64 k,.int .i64 z,.int .i64 h,.slice a n c,.string s],.bool b]) X:=by
 obtain⟨r0,r1,r2,r3,r4,r5,r6⟩:=hk.at
 have ht':tmps[4]?.getD undef=.pointer (some ⟨g,0,none⟩):=by simpa using ht
 have h5':tmps[5]?.getD undef=.bool b:=by simpa using h5
 simp[results,Tryz.results228,go_sem,ht',h5',r0,r1,r2,r3,r4,r5,r6]
theorem Own.all7{B:Nat}{v:Value}{xs:List Nat}(h:Own w B v xs)(hg:g<B)(u0 u1 u2 u3 u4 u5 u6:Value):Own (set7 w g u0 u1 u2 u3 u4 u5 u6) B v xs:=
 ((((((h.other 0 u0 hg).other 1 u1 hg).other 2 u2 hg).other 3 u3 hg).other 4 u4 hg).other 5 u5 hg).other 6 u6 hg
theorem Zs1(a:Option Addr)(n c:Nat)(ps:List PKV)(a':Option Addr)(m c':Nat)(ws:List Int)(w:World)(ht:Tab w)(h:PksAt w a n ps)(hk:KsIn w ps)(hs:ZqS ps)(hw:IntzAt w a' m ws)(hn:n≤300)(hm:m≤300):
  Calls Tryz.prog 228 #[.slice a n c,.slice a' m c'] w fun e w'=>MixR w w' (mixD (ps.map PKV.pd) ws) e:=by
 have hb0:=(Below.refl w.heap.size w).alloc (Nat.le_refl _) (.cells #[.int .i64 0,.int .i64 0,.int .i64 0,.int .i64 0,.int .i64 0,.slice none 0 0,.string ⟨#[]⟩] 59)
 have hz:=ZaG w (.int .i64 0) (.int .i64 0) (.int .i64 0) (.int .i64 0) (.int .i64 0) (.slice none 0 0) (.string ⟨#[]⟩)
 have hsz:(w.alloc (.cells #[.int .i64 0,.int .i64 0,.int .i64 0,.int .i64 0,.int .i64 0,.slice none 0 0,.string ⟨#[]⟩] 59)).heap.size=w.heap.size+1:=by simp
 have hsub:∀p∈atL .dflt ps ws,p∈ps:=fun p hp=>ZmY (Zud.1 hp)
 have hlen:(atL .dflt ps ws).length≤300:=by have h1:=Zzl (dd:=.dflt) ps ws;have h2:=hw.1;omega
 have hmix:mixD (ps.map PKV.pd) ws=mixL ((atL .dflt ps ws).map PKV.pd):=by rw[ZzJ];exact(ZAr _ _).symm
 have hsh:∀p∈atL .dflt ps ws,p.r.n≤10∧p.r.s.size≤1000:=fun p hp=>ZiO hs (hsub p hp)
 have hmc:=Zxd (us:=atL .dflt ps ws)
 have hvl:(vecL (rowsK (atL .dflt ps ws))).length≤10:=Zp7 (KsIn.rows (hk.sub hsub)) (shortP_rows hsh)
 generalize hWW:w.alloc (.cells #[.int .i64 0,.int .i64 0,.int .i64 0,.int .i64 0,.int .i64 0,.slice none 0 0,.string ⟨#[]⟩] 59)=W at*
 have HAT:=hide (Zy0 a n c ps a' m c' ws W (h.below hb0) (hw.below hb0) hn hm)
 have HKI:=hide ((hk.sub hsub).below hb0)
 have HTB:=hide (ht.below hb0)
 have HZ:=hide hz
 have HB0:=hide hb0
 have HSZ:=hide hsz
 have HSH:=hide hsh
 rw[hmix]
 clear h hk hs hw hb0 hz hsz hsub hsh hmix ht
 generalize atL .dflt ps ws=us at*
 have hul:us.length≤1048576:=by omega
 by_cases hpos:0<us.length
 ·have hpos':¬((us.length:Int)=0):=by omega
  have hpos2:(0:Int)<(us.length:Int):=by omega
  have HMC:=hide (hmc hpos)
  have HFA:=hide (fun wx a1 m1 c1 (hp:PksAt wx a1 m1 us) (h1:0<m1) (h2:m1≤1048576)=>Zk1 a1 m1 c1 us wx hp h1 h2)
  have HMX:=hide (fun wx a1 m1 c1 (hp:PksAt wx a1 m1 us) (hk:KsIn wx us)=>Zse a1 m1 c1 us wx hp hk (unhide HSH) (by rw[←hp.1];exact hlen))
  have HCV:=hide (fun wx a1 m1 c1 (hp:RowAt wx a1 m1 (vecL (rowsK us))) (hm:m1≤1048576)=>Zbt a1 m1 c1 (vecL (rowsK us)) wx hp hm)
  clear hmc
  generalize hopX (us.map PKV.pd)=HO at*
  generalize mixL (us.map PKV.pd)=o at*
  generalize vecL (rowsK us)=V at*
  generalize st (sumL ((rowsK us).map fun r=>r.s))=S at*
  generalize cnt V=CV at*
  cases hal:allK us
  ·have HNO:Hid (o=none):=hide (by rw[unhide HMC,if_neg (fun e=>absurd (hal.symm.trans e.1) (by decide))])
   clear HMC
   go_enter Tryz.func228,Tryz.ntmps228
   go_wp2_with (first
    |(go_at_call 259;refine(unhide HAT).mono ?_;rintro e w1 ⟨v1,rfl,ho1,hb1⟩;obtain⟨a1,m1,c1,rfl⟩:∃a m c,v1=Value.slice a m c:=⟨_,_,_,ho1.shape.choose_spec.choose_spec⟩;obtain⟨hp1,hm1,hc1,hd1⟩:=ho1.at' ((unhide HKI).below hb1);have hq1:0<m1:=(by omega);have hq2:m1≤1048576:=(by omega);have hq3:¬(m1:Int)=0:=(by omega);have hq4:(0:Int)<(m1:Int):=(by omega);have hq5:((m1:Int)==0)=false:=beq_eq_false_iff_ne.2 hq3;clear hm1;have HP1:=hide hp1;have HB1:=hide hb1;have HT1:=hide ((unhide HTB).below hb1);have HZ1:=hide ((unhide HZ).below hb1);clear ho1 hb1 hp1 HAT)
    |(go_at_call 260;refine(Zdg a1 m1 c1 us w1 (unhide HT1) (unhide HP1) hq1 hq2).mono ?_;rintro e w2 ⟨rfl,hb2⟩;rw[hal];have HB2:=hide (below0 (unhide HB1) hb2);have HP2:=hide ((unhide HP1).below hb2);have HZ2:=hide ((unhide HZ1).below hb2);clear hb2;obtain⟨y0,y1,y2,y3,y4,y5,y6⟩:=(unhide HZ2).at;have gz:=(unhide HZ2).frz))
   exact bodyPost_ret (ZhG (g:=w.heap.size) (X:=set7 w2 w.heap.size (.int .i64 0) (.int .i64 0) (.int .i64 0) (.int .i64 0) (.int .i64 0) (.slice none 0 0) (.string ⟨#[]⟩)) rfl rfl ((unhide HZ2).sets _ _ _ _ _ _ _)) rfl (MixR.no (unhide HNO) (Zbd ((unhide HB0).trans ((unhide HB2).mono (by have:=unhide HSZ;omega))) (Nat.le_refl _) _ _ _ _ _ _ _))
  ·by_cases hh:15≤HO
   ·have HNO:Hid (o=none):=hide (by rw[unhide HMC,if_neg (fun e=>absurd e.2.2 (by omega))])
    clear HMC
    go_enter Tryz.func228,Tryz.ntmps228
    go_wp2_with (first
     |(go_at_call 259;refine(unhide HAT).mono ?_;rintro e w1 ⟨v1,rfl,ho1,hb1⟩;obtain⟨a1,m1,c1,rfl⟩:∃a m c,v1=Value.slice a m c:=⟨_,_,_,ho1.shape.choose_spec.choose_spec⟩;obtain⟨hp1,hm1,hc1,hd1⟩:=ho1.at' ((unhide HKI).below hb1);have hq1:0<m1:=(by omega);have hq2:m1≤1048576:=(by omega);have hq3:¬(m1:Int)=0:=(by omega);have hq4:(0:Int)<(m1:Int):=(by omega);have hq5:((m1:Int)==0)=false:=beq_eq_false_iff_ne.2 hq3;clear hm1;have HP1:=hide hp1;have HB1:=hide hb1;have HT1:=hide ((unhide HTB).below hb1);have HZ1:=hide ((unhide HZ).below hb1);clear ho1 hb1 hp1 HAT)
     |(go_at_call 260;refine(Zdg a1 m1 c1 us w1 (unhide HT1) (unhide HP1) hq1 hq2).mono ?_;rintro e w2 ⟨rfl,hb2⟩;rw[hal];have HB2:=hide (below0 (unhide HB1) hb2);have HP2:=hide ((unhide HP1).below hb2);have HZ2:=hide ((unhide HZ1).below hb2);clear hb2)
     |(go_at_call 261;refine(unhide HFA w2 a1 m1 c1 (unhide HP2) hq1 hq2).mono ?_;rintro e w3 ⟨rfl,hb3⟩;have HB3:=hide (below0 (unhide HB2) hb3);have HP3:=hide ((unhide HP2).below hb3);have HZ3:=hide ((unhide HZ2).below hb3);clear hb3;obtain⟨y0,y1,y2,y3,y4,y5,y6⟩:=(unhide HZ3).at;have gz:=(unhide HZ3).frz))
    exact bodyPost_ret (ZhG (g:=w.heap.size) (X:=set7 w3 w.heap.size (.int .i64 0) (.int .i64 0) (.int .i64 0) (.int .i64 0) (.int .i64 0) (.slice none 0 0) (.string ⟨#[]⟩)) rfl rfl ((unhide HZ3).sets _ _ _ _ _ _ _)) rfl (MixR.no (unhide HNO) (Zbd ((unhide HB0).trans ((unhide HB3).mono (by have:=unhide HSZ;omega))) (Nat.le_refl _) _ _ _ _ _ _ _))
   ·have hh':decide (15≤HO)=false:=decide_eq_false hh
    by_cases hcv:CV=0
    ·have HNO:Hid (o=none):=hide (by rw[unhide HMC,if_neg (fun e=>absurd e.2.1 (by omega))])
     have hcv':(CV:Int)=0:=by omega
     clear HMC
     go_enter Tryz.func228,Tryz.ntmps228
     go_wp2_with (first
      |(go_at_call 259;refine(unhide HAT).mono ?_;rintro e w1 ⟨v1,rfl,ho1,hb1⟩;obtain⟨a1,m1,c1,rfl⟩:∃a m c,v1=Value.slice a m c:=⟨_,_,_,ho1.shape.choose_spec.choose_spec⟩;obtain⟨hp1,hm1,hc1,hd1⟩:=ho1.at' ((unhide HKI).below hb1);have hq1:0<m1:=(by omega);have hq2:m1≤1048576:=(by omega);have hq3:¬(m1:Int)=0:=(by omega);have hq4:(0:Int)<(m1:Int):=(by omega);have hq5:((m1:Int)==0)=false:=beq_eq_false_iff_ne.2 hq3;clear hm1;have HP1:=hide hp1;have HB1:=hide hb1;have HT1:=hide ((unhide HTB).below hb1);have HZ1:=hide ((unhide HZ).below hb1);clear ho1 hb1 hp1 HAT)
      |(go_at_call 260;refine(Zdg a1 m1 c1 us w1 (unhide HT1) (unhide HP1) hq1 hq2).mono ?_;rintro e w2 ⟨rfl,hb2⟩;rw[hal];have HB2:=hide (below0 (unhide HB1) hb2);have HP2:=hide ((unhide HP1).below hb2);have HZ2:=hide ((unhide HZ1).below hb2);clear hb2)
      |(go_at_call 261;refine(unhide HFA w2 a1 m1 c1 (unhide HP2) hq1 hq2).mono ?_;rintro e w3 ⟨rfl,hb3⟩;have HB3:=hide (below0 (unhide HB2) hb3);have HP3:=hide ((unhide HP2).below hb3);have HZ3:=hide ((unhide HZ2).below hb3);clear hb3)
      |(go_at_call 262;refine(unhide HMX w3 a1 m1 c1 (unhide HP3) ((unhide HKI).below (unhide HB3))).mono ?_;rintro e w4 ⟨v4,rfl,ho4,hb4⟩;obtain⟨a4,m4,c4,rfl,hm4⟩:∃a m c,v4=Value.slice a m c∧m≤10:=(by obtain⟨a,c,e,_⟩:=ho4.row;exact⟨a,_,c,e,hvl⟩);have HB4:=hide (below0 (unhide HB3) hb4);have HP4:=hide ((unhide HP3).below hb4);have HZ4:=hide ((unhide HZ3).below hb4);have HO4:=hide (ho4.mono (B':=w.heap.size+1) (by have h1:=unhide HSZ;have h2:=(unhide HB3).size;omega));clear hb4 ho4)
      |(go_at_call 181;have hb5:Below w4.heap.size w4 (w4.alloc (.cells #[.slice a4 m4 c4,.string S] 57)):=(Below.refl _ _).alloc (Nat.le_refl _) _;have hx5:=Zd0 w4 (.slice a4 m4 c4) (.string S);have hs5:(w4.alloc (.cells #[.slice a4 m4 c4,.string S] 57)).heap.size=w4.heap.size+1:=(by simp);generalize hw5:w4.alloc (.cells #[.slice a4 m4 c4,.string S] 57)=w5 at*;have hr5:RowAt w5 a4 m4 V:=(by have h5:=(unhide HO4).below hb5;obtain⟨_,_,e,hrr⟩:=h5.row;simp only[Value.slice.injEq]at e;obtain⟨rfl,rfl,rfl⟩:=e;exact hrr);have HB5:=hide (below0 (unhide HB4) hb5);have HP5:=hide ((unhide HP4).below hb5);have HZ5:=hide ((unhide HZ4).below hb5);have HX5:=hide hx5;have HS5:=hide hs5;refine(unhide HCV w5 a4 m4 c4 hr5 (by omega)).mono ?_;rintro e wx ⟨rfl,hwx⟩;obtain rfl:=hwx.symm;clear hwx hb5 hx5 hs5 hr5 hw5;obtain⟨y0,y1,y2,y3,y4,y5,y6⟩:=(unhide HZ5).at;have gz:=(unhide HZ5).frz))
     exact bodyPost_ret (ZhG (g:=w.heap.size) (X:=set7 w5 w.heap.size (.int .i64 0) (.int .i64 0) (.int .i64 0) (.int .i64 0) (.int .i64 0) (.slice none 0 0) (.string ⟨#[]⟩)) rfl rfl ((unhide HZ5).sets _ _ _ _ _ _ _)) rfl (MixR.no (unhide HNO) (Zbd ((unhide HB0).trans ((unhide HB5).mono (by have:=unhide HSZ;omega))) (Nat.le_refl _) _ _ _ _ _ _ _))
    ·have hcv':¬(CV:Int)=0:=by omega
     have HYE:=hide (show o=some ⟨(us.getD 0 .dflt).o,(us.getD 0 .dflt).l,(us.getD 0 .dflt).k,(us.getD 0 .dflt).z,IntKind.i64.wrap (HO+1),V,S⟩ from by rw[unhide HMC,if_pos ⟨hal,by omega,by omega⟩])
     have HC0:=hide (fun wx a1 m1 (hp:PksAt wx a1 m1 us)=>show∃b off,a1=some ⟨b,off,none⟩∧PkCells wx b off (us.getD 0 .dflt) from by
      have hpz:0<m1:=by rw[←hp.1];exact hpos
      obtain⟨b,off,e,hcl⟩:=hp.at hpz
      have:=hcl 0 hpz
      rw[Nat.zero_mul,Nat.add_zero]at this
      exact⟨b,off,e,this⟩)
     clear HMC
     generalize us.getD 0 .dflt=q at*
     generalize hHW:IntKind.i64.wrap (HO+1)=HW at*
     go_enter Tryz.func228,Tryz.ntmps228
     go_wp2_with (first
      |(go_at_call 259;refine(unhide HAT).mono ?_;rintro e w1 ⟨v1,rfl,ho1,hb1⟩;obtain⟨a1,m1,c1,rfl⟩:∃a m c,v1=Value.slice a m c:=⟨_,_,_,ho1.shape.choose_spec.choose_spec⟩;obtain⟨hp1,hm1,hc1,hd1⟩:=ho1.at' ((unhide HKI).below hb1);have hq1:0<m1:=(by omega);have hq2:m1≤1048576:=(by omega);have hq3:¬(m1:Int)=0:=(by omega);have hq4:(0:Int)<(m1:Int):=(by omega);have hq5:((m1:Int)==0)=false:=beq_eq_false_iff_ne.2 hq3;clear hm1;have HP1:=hide hp1;have HB1:=hide hb1;have HT1:=hide ((unhide HTB).below hb1);have HZ1:=hide ((unhide HZ).below hb1);clear ho1 hb1 hp1 HAT)
      |(go_at_call 260;refine(Zdg a1 m1 c1 us w1 (unhide HT1) (unhide HP1) hq1 hq2).mono ?_;rintro e w2 ⟨rfl,hb2⟩;rw[hal];have HB2:=hide (below0 (unhide HB1) hb2);have HP2:=hide ((unhide HP1).below hb2);have HZ2:=hide ((unhide HZ1).below hb2);clear hb2)
      |(go_at_call 261;refine(unhide HFA w2 a1 m1 c1 (unhide HP2) hq1 hq2).mono ?_;rintro e w3 ⟨rfl,hb3⟩;have HB3:=hide (below0 (unhide HB2) hb3);have HP3:=hide ((unhide HP2).below hb3);have HZ3:=hide ((unhide HZ2).below hb3);clear hb3)
      |(go_at_call 262;refine(unhide HMX w3 a1 m1 c1 (unhide HP3) ((unhide HKI).below (unhide HB3))).mono ?_;rintro e w4 ⟨v4,rfl,ho4,hb4⟩;obtain⟨a4,m4,c4,rfl,hm4⟩:∃a m c,v4=Value.slice a m c∧m≤10:=(by obtain⟨a,c,e,_⟩:=ho4.row;exact⟨a,_,c,e,hvl⟩);have HB4:=hide (below0 (unhide HB3) hb4);have HP4:=hide ((unhide HP3).below hb4);have HZ4:=hide ((unhide HZ3).below hb4);have HO4:=hide (ho4.mono (B':=w.heap.size+1) (by have h1:=unhide HSZ;have h2:=(unhide HB3).size;omega));clear hb4 ho4;have HW45:=hide (show Below w4.heap.size w4 (w4.alloc (.cells #[.slice a4 m4 c4,.string S] 57)) from(Below.refl _ _).alloc (Nat.le_refl _) _);have HOL:=hide (fun j hj=>(World.ownsRow.lt (unhide HO4).2 j hj).2))
      |(go_at_call 181;have hb5:Below w4.heap.size w4 (w4.alloc (.cells #[.slice a4 m4 c4,.string S] 57)):=(Below.refl _ _).alloc (Nat.le_refl _) _;have hx5:=Zd0 w4 (.slice a4 m4 c4) (.string S);have hs5:(w4.alloc (.cells #[.slice a4 m4 c4,.string S] 57)).heap.size=w4.heap.size+1:=(by simp);generalize hw5:w4.alloc (.cells #[.slice a4 m4 c4,.string S] 57)=w5 at*;have hr5:RowAt w5 a4 m4 V:=(by have h5:=(unhide HO4).below hb5;obtain⟨_,_,e,hrr⟩:=h5.row;simp only[Value.slice.injEq]at e;obtain⟨rfl,rfl,rfl⟩:=e;exact hrr);have HB5:=hide (below0 (unhide HB4) hb5);have HP5:=hide ((unhide HP4).below hb5);have HZ5:=hide ((unhide HZ4).below hb5);have HX5:=hide hx5;have HS5:=hide hs5;refine(unhide HCV w5 a4 m4 c4 hr5 (by omega)).mono ?_;rintro e wx ⟨rfl,hwx⟩;obtain rfl:=hwx.symm;clear hwx hb5 hx5 hs5 hr5 hw5;obtain⟨b0,f0,rfl,p0,p1,p2,p3,p4,p5,p6⟩:=unhide HC0 w5 a1 m1 (unhide HP5))
      |(go_at_call 263;refine(Zjw q.o q.l q.k q.z q.h q.r.a q.r.n q.r.c q.r.s w5).mono ?_;rintro e w6 ⟨rfl,hb6⟩;have HB6:=hide (below0 (unhide HB5) hb6);have HP6:=hide ((unhide HP5).below hb6);have HZ6:=hide ((unhide HZ5).below hb6);have HX6:=hide ((unhide HX5).below hb6);have HS6:=hide hb6.size;have HO6:=hide ((unhide HO4).below ((unhide HW45).trans (hb6.mono (by have:=unhide HS5;omega))));clear hb6)
      |(go_at_call 261;have hb7:Below w6.heap.size w6 (w6.alloc (.cells #[.int .i64 q.o,.int .i64 q.l,.int .i64 q.k,.int .i64 q.z,.int .i64 0,.slice none 0 0,.string ⟨#[]⟩] 59)):=(Below.refl _ _).alloc (Nat.le_refl _) _;have hx7:=ZaG w6 (.int .i64 q.o) (.int .i64 q.l) (.int .i64 q.k) (.int .i64 q.z) (.int .i64 0) (.slice none 0 0) (.string ⟨#[]⟩);generalize hw7:w6.alloc (.cells #[.int .i64 q.o,.int .i64 q.l,.int .i64 q.k,.int .i64 q.z,.int .i64 0,.slice none 0 0,.string ⟨#[]⟩] 59)=w7 at*;refine(unhide HFA w7 (some ⟨b0,f0,none⟩) m1 c1 ((unhide HP6).below hb7) hq1 hq2).mono ?_;rintro e w8 ⟨rfl,hb8⟩;have HB8:=hide (below0 (below0 (unhide HB6) hb7) hb8);have HZ8:=hide (((unhide HZ6).below hb7).below hb8);have HX8:=hide (((unhide HX6).below hb7).below hb8);have HQ8:=hide (hx7.below hb8);have HO8:=hide (((unhide HO6).below hb7).below hb8);clear hb7 hb8 hx7 hw7;obtain⟨s0,s1,s2,s3,s4,s5,s6⟩:=(unhide HQ8).at;have gs:=(unhide HQ8).frz;have hne1:w6.heap.size≠w4.heap.size:=(by have h1:=unhide HS5;have h2:=unhide HS6;omega);have hne2:w.heap.size≠w6.heap.size:=(by have h1:=unhide HSZ;have h2:=(unhide HB6).size;omega);obtain⟨⟨t0,t1⟩,_,_⟩:=(unhide HX8).other (g':=w6.heap.size) 4 (.int .i64 HW) hne1;have hA:=(unhide HQ8).set4 (.int .i64 HW);have hA5:=hA.at.2.2.2.2.2.1;have hAf:=hA.frz;have hBq:=hA.set5 (.slice a4 m4 c4);have hB6:=hBq.at.2.2.2.2.2.2;have hBf:=hBq.frz;have hCq:=hBq.set6 (.string S);obtain⟨r0,r1,r2,r3,r4,r5,r6⟩:=hCq.at;have hCz:=(((unhide HZ8).other (a:=⟨w6.heap.size,4,none⟩) hne2 (.int .i64 HW)).other (a:=⟨w6.heap.size,5,none⟩) hne2 (.slice a4 m4 c4)).other (a:=⟨w6.heap.size,6,none⟩) hne2 (.string S);obtain⟨y0,y1,y2,y3,y4,y5,y6⟩:=hCz.at;have gz:=hCz.frz;have HCZ:=hide hCz;clear hA hBq hCq hCz))
     have HBF:=hide ((((unhide HB8).setCell (p:=⟨w6.heap.size,4,none⟩) (unhide HB6).size (.int .i64 HW)).setCell (p:=⟨w6.heap.size,5,none⟩) (unhide HB6).size (.slice a4 m4 c4)).setCell (p:=⟨w6.heap.size,6,none⟩) (unhide HB6).size (.string S))
     have HOB:=hide (show∀j,(Value.slice a4 m4 c4).ownBlock=some j→j≠w6.heap.size from fun j hj=>by have h1:=unhide HOL j hj;have h2:=unhide HS5;have h3:=unhide HS6;omega)
     have HOF:=hide ((((unhide HO8).off (g:=w6.heap.size) (unhide HOB) 4 (.int .i64 HW)).off (g:=w6.heap.size) (unhide HOB) 5 (.slice a4 m4 c4)).off (g:=w6.heap.size) (unhide HOB) 6 (.string S))
     exact bodyPost_ret (ZhG (g:=w.heap.size) (X:=set7 (((w8.setCell ⟨w6.heap.size,4,none⟩ (.int .i64 HW)).setCell ⟨w6.heap.size,5,none⟩ (.slice a4 m4 c4)).setCell ⟨w6.heap.size,6,none⟩ (.string S)) w.heap.size (.int .i64 q.o) (.int .i64 q.l) (.int .i64 q.k) (.int .i64 q.z) (.int .i64 HW) (.slice a4 m4 c4) (.string S)) rfl rfl ((unhide HCZ).sets _ _ _ _ _ _ _)) rfl
      (MixR.yes (q:=⟨q.o,q.l,q.k,q.z,HW,⟨a4,m4,c4,V,S⟩⟩) (unhide HYE) rfl (Zbd ((unhide HB0).trans ((unhide HBF).mono (by have:=unhide HSZ;omega))) (Nat.le_refl _) _ _ _ _ _ _ _) (((unhide HOF).all7 (g:=w.heap.size) (Nat.lt_succ_self _) _ _ _ _ _ _ _).mono (Nat.le_succ _)))
 ·have h0:us=[]:=List.eq_nil_of_length_eq_zero (by omega)
  have HNO:Hid (mixL (us.map PKV.pd)=none):=hide (by rw[h0];rfl)
  have hpos':(us.length:Int)=0:=by omega
  clear hmc h0
  generalize mixL (us.map PKV.pd)=o at*
  go_enter Tryz.func228,Tryz.ntmps228
  go_wp2_with (first
   |(go_at_call 259;refine(unhide HAT).mono ?_;rintro e w1 ⟨v1,rfl,ho1,hb1⟩;obtain⟨a1,m1,c1,rfl⟩:∃a m c,v1=Value.slice a m c:=⟨_,_,_,ho1.shape.choose_spec.choose_spec⟩;obtain⟨hp1,hm1,hc1,hd1⟩:=ho1.at' ((unhide HKI).below hb1);obtain rfl:m1=0:=(by omega);clear hm1;have HP1:=hide hp1;have HB1:=hide hb1;have HT1:=hide ((unhide HTB).below hb1);have HZ1:=hide ((unhide HZ).below hb1);clear ho1 hb1 hp1 HAT;obtain⟨y0,y1,y2,y3,y4,y5,y6⟩:=(unhide HZ1).at;have gz:=(unhide HZ1).frz))
  exact bodyPost_ret (ZhG (g:=w.heap.size) (X:=set7 w1 w.heap.size (.int .i64 0) (.int .i64 0) (.int .i64 0) (.int .i64 0) (.int .i64 0) (.slice none 0 0) (.string ⟨#[]⟩)) rfl rfl ((unhide HZ1).sets _ _ _ _ _ _ _)) rfl (MixR.no (unhide HNO) (Zbd ((unhide HB0).trans ((unhide HB1).mono (by have:=unhide HSZ;omega))) (Nat.le_refl _) _ _ _ _ _ _ _))
end Go.Proofs.YtlhhinlghhjghaaGreatDoor
