/-
  Contracts of slices.Grow (of none) and slices.Concat (of two) at rows, gauss.peeled, gauss.Solve, gauss.Decode.
  What peeling leaves is of k blocks, and is true where the rows are; elimination of true rows, peeled or not. No condition.
  Contracts of store.New, Len, Over, Rank, copyOf, fits.
  Contracts of Store.refuse, overflow, keep, taker, Put.
  Contracts of Store.Put, Store.Rows.
-/
import Derived.Test.YtlhhinlghhjghaaGreatDoorU31
import Derived.Test.YtlhhinlghhjghaaGreatDoorU12
import Derived.Test.YtlhhinlghhjghaaGreatDoorU13
namespace Go.Proofs.YtlhhinlghhjghaaGreatDoor
open Go.RowKit Go.Sort
set_option linter.unusedVariables false
set_option linter.unusedSimpArgs false
set_option maxRecDepth 4000
set_option maxHeartbeats 8000000
variable {k z:Int}{L:List (List Nat×ByteArray)}{bs:List ByteArray}{xs kn:List Nat}{x:List Nat×ByteArray}{rs us:List RV}{m g B n:Nat}{w:World}
theorem ZtX(w:World):(Instr.sliceAt 60 (.slice none 0 0) none (some (.int .i64 0)) none).run Tryz.prog w=.ok (.slice none 0 0) w:=by
 have:=run_sliceAt_slice (P:=Tryz.prog) w 60 (.slice none 0 0) none (some (.int .i64 0)) none ZcV
 rw[this,run_slice_h _ _ _ _ _ ZcV _ _ (by omega) (by omega),Zfz,ZjH]
 simp[Result.andThen,sliced]
theorem ZeH(m:Nat):(Builtin.zeroCells (Value.agg #[.slice none 0 0,.string ⟨#[]⟩]).cells m).size=m*2:=by
 unfold Builtin.zeroCells
 simp[Value.cells]
theorem Zwz(m:Nat)(w:World)(hm:m≤1048576):
  Calls Tryz.prog 281 #[.slice none 0 0,.int .i64 (m:Int)] w fun e w'=> ∃a1 c1,e=.returned (.slice a1 0 c1)∧OwnS w' w.heap.size (.slice a1 0 c1) []∧Below w.heap.size w w':=by
 have hm0:decide ((m:Int)<0)=false:=by rw[decide_eq_false_iff_not];omega
 by_cases h0:m=0
 ·subst h0
  go_enter Tryz.func281,Tryz.ntmps281
  go_wp2
  go_ret
  exact⟨none,0,rfl,OwnS.nil _ _,Below.refl _ _⟩
 ·have hp:decide ((0:Int)<(m:Int))=true:=by rw[decide_eq_true_iff];omega
  obtain⟨i0,hi0,hz0,hz1,hz2⟩:=info_parts Zdx
  have hr:=fun ty=>Lib.run_append_nil_zeros (P:=Tryz.prog) w 60 3 ty 57 i0 (.agg #[.slice none 0 0,.string ⟨#[]⟩]) .i64 .i64 Tryz.underlying60 Tryz.underlying3 hi0 hz0 m (by omega) (by omega) (by omega) (by rw[hz2];omega)
  have hge:=grownCap_ge w m 0 57
  have hcm:=grownCap_le_maxLen w m 0 57 (by unfold maxLen;omega)
  generalize hcp:grownCap w m 0 57=cp at*
  obtain⟨R,hR⟩:∃R,R=Builtin.zeroCells (Value.agg #[.slice none 0 0,.string ⟨#[]⟩]).cells m++Builtin.zeroCells (Value.agg #[.slice none 0 0,.string ⟨#[]⟩]).cells (cp-m):=⟨_,rfl⟩
  rw[←hR]at hr
  have hRs:R.size=cp*2:=by rw[hR,Array.size_append,ZeH,ZeH];omega
  have HO:Hid (OwnS (w.drew.alloc (.cells R 57)) w.heap.size (.slice (some ⟨w.heap.size,0,none⟩) 0 cp) []):=hide ⟨rfl,.inr ⟨w.heap.size,cp,R,rfl,Nat.le_refl _,heap_alloc_new w.drew _,Nat.zero_le _,hcm,hRs,by simp[cellsR]⟩⟩
  have hgb:w.grownBy (w.drew.alloc (.cells R 57)) none:=⟨rfl,rfl,rfl,by simp,fun k hk _=>heap_alloc_old w.drew _ hk⟩
  have HB:=hide (Zat (B:=w.heap.size) hgb (Nat.le_refl _) (fun k hk=>by cases hk))
  clear hgb
  have hsl:=Znr w.heap.size 0 m cp 0 (by omega)
  have hsn:=ZtX
  clear hi0 hz0 hz1 hz2 hR hRs hcp
  go_enter Tryz.func281,Tryz.ntmps281
  go_wp2_with (at_builtin;refine Lib.wpList_append_run _ rfl _ _ _ _ rfl _ _ rfl rfl _ _ (hr _) ?_)
  go_ret
  exact⟨_,_,rfl,unhide HO,unhide HB⟩
def ZBJ(ts1 ts2:List RV)(k:Nat):List RV:=if k=0 then []else if k=1 then ts1 else ts1++ts2
theorem ZpL(g:Nat)(a1:Option Addr)(m1 c1:Nat)(ts1:List RV)(a2:Option Addr)(m2 c2:Nat)(ts2:List RV)(B1 B2:Nat)(w:World)(hc0:w.cell? ⟨g,0,none⟩=some (.slice a1 m1 c1))(hc1:w.cell? ⟨g,1,none⟩=some (.slice a2 m2 c2))
  (h1:OwnS w B1 (.slice a1 m1 c1) ts1) (h2:OwnS w B2 (.slice a2 m2 c2) ts2) (hm1:m1≤1000) (hm2:m2≤1000):
  Calls Tryz.prog 238 #[.slice (some ⟨g,0,none⟩) 2 2] w fun e w'=> ∃a3 m3 c3,e=.returned (.slice a3 m3 c3)∧OwnS w' w.heap.size (.slice a3 m3 c3) (ts1++ts2)∧Below w.heap.size w w':=by
 obtain⟨a1',c1',e1⟩:=h1.shape
 obtain⟨a2',c2',e2⟩:=h2.shape
 have hl1:ts1.length=m1:=by simp only[Value.slice.injEq]at e1;exact e1.2.1.symm
 have hl2:ts2.length=m2:=by simp only[Value.slice.injEq]at e2;exact e2.2.1.symm
 clear e1 e2 a1' c1' a2' c2'
 have H1:=hide h1
 have H2:=hide h2
 have HC:=hide (And.intro hc0 hc1)
 have HG:=hide (fun wx=>Zwz (m1+m2) wx (by omega))
 clear h1 h2
 go_enter Tryz.func238,Tryz.ntmps238
 go_wp2
 go_loop [3,11] (fun s i=> ∃k:Nat,k≤2∧i=.int .i64 k∧s=.int .i64 ((if k=0 then 0 else if k=1 then m1 else m1+m2:Nat):Int)) (fun _ i=>2-(intOf i).toNat)
 case atStart=>exact⟨0,by omega,rfl,rfl⟩
 case round=>
  obtain⟨k,hk,rfl,rfl⟩:=hrel
  obtain rfl|rfl|rfl:k=0∨k=1∨k=2:=by omega
  ·have hd:decide ((m1:Int)<0)=false:=by rw[decide_eq_false_iff_not];omega
   go_wp2
   go_round
   case rel=>exact⟨1,by omega,by go_num,by simp⟩
   case measure=>simp[intOf]
  ·have hd:decide ((m1:Int)+(m2:Int)<0)=false:=by rw[decide_eq_false_iff_not];omega
   go_wp2
   go_round
   case rel=>exact⟨2,by omega,by go_num,by simp⟩
   case measure=>simp[intOf]
  ·clear hc0 hc1
   go_wp2_with fail
   refine(unhide HG w).mono ?_
   rintro e w1 ⟨a3,c3,rfl,ho3,hb3⟩
   obtain⟨hc0,hc1⟩:=unhide HC
   have hc0:=(hb3.cell (World.block_lt_of_cell? w _ hc0)).trans hc0
   have hc1:=(hb3.cell (World.block_lt_of_cell? w _ hc1)).trans hc1
   have HC1:=hide (And.intro hc0 hc1)
   have HO3:=hide ho3
   have HB3:=hide hb3
   clear ho3 hb3 hc0 hc1 HG
   go_wp2
   go_loopw [6,27] (fun o i wr=> ∃k:Nat,∃a4 m4 c4,k≤2∧i=.int .i64 k∧o=.slice a4 m4 c4∧Hid (OwnS wr w.heap.size (.slice a4 m4 c4) (ZBJ ts1 ts2 k))∧Hid (Below w.heap.size w wr)) (fun _ i _=>2-(intOf i).toNat)
   case atStart=>exact⟨0,a3,0,c3,by omega,rfl,rfl,HO3,HB3⟩
   case round=>
    obtain⟨k,a4,m4,c4,hk4,rfl,rfl,HO,HB⟩:=hrel
    clear HO3 HB3 HC1
    obtain⟨hc0,hc1⟩:=unhide HC
    have hc0:=((unhide HB).cell (World.block_lt_of_cell? w _ hc0)).trans hc0
    have hc1:=((unhide HB).cell (World.block_lt_of_cell? w _ hc1)).trans hc1
    have HS1:=hide ((unhide H1).below (unhide HB))
    have HS2:=hide ((unhide H2).below (unhide HB))
    obtain rfl|rfl|rfl:k=0∨k=1∨k=2:=by omega
    ·go_wp2_with (at_builtin;refine Zen rfl (.tmp 31) (.tmp 32) rfl w.heap.size B1 (.slice a4 m4 c4) (.slice a1 m1 c1) [] ts1 rfl rfl (unhide HO) (unhide HB).size (unhide HS1) (by simp;omega) ?_;intro v5 w5 ho5 hb5;(try rw[List.nil_append]at ho5);obtain⟨a5,m5,c5,rfl⟩:∃a5 m5 c5,v5=Value.slice a5 m5 c5:=(by obtain⟨a,c,e⟩:=ho5.shape;exact⟨a,_,c,e⟩);have HO5:=hide ho5;have HB5:=hide ((unhide HB).trans hb5);clear ho5 hb5)
     go_roundw
     case rel=>exact⟨1,_,_,_,by omega,by go_num,rfl,HO5,HB5⟩
     case measure=>simp[intOf]
    ·go_wp2_with (at_builtin;refine Zen rfl (.tmp 31) (.tmp 32) rfl w.heap.size B2 (.slice a4 m4 c4) (.slice a2 m2 c2) ts1 ts2 rfl rfl (unhide HO) (unhide HB).size (unhide HS2) (by omega) ?_;intro v5 w5 ho5 hb5;(try rw[List.nil_append]at ho5);obtain⟨a5,m5,c5,rfl⟩:∃a5 m5 c5,v5=Value.slice a5 m5 c5:=(by obtain⟨a,c,e⟩:=ho5.shape;exact⟨a,_,c,e⟩);have HO5:=hide ho5;have HB5:=hide ((unhide HB).trans hb5);clear ho5 hb5)
     go_roundw
     case rel=>exact⟨2,_,_,_,by omega,by go_num,rfl,HO5,HB5⟩
     case measure=>simp[intOf]
    ·go_wp2
     go_ret
     exact⟨_,_,_,rfl,unhide HO,unhide HB⟩
theorem Zly{k:Int}{rs:List RV}(hs:0<sizeOfK k)(hg:Good rs):∀(d j:Nat) (kn:List Nat) (bs:List ByteArray),Run k rs j kn bs→k.toNat-j≤d→∃kn' bs',PeelP k rs kn' bs'
 |d,j,kn,bs,h,hd=>by
  cases hf:rs.find? (Zbs k kn)with
  |none=>exact⟨kn,bs,⟨j,h⟩,hf⟩
  |some r=>
   have h2:Run k rs (j+1) (setB kn (blkOf kn r) true) (bs.set (blkOf kn r) (txtL bs r.xs r.s)):=⟨kn,bs,r,h,hf,rfl,rfl⟩
   have hle:=(Run.known hs hg h2).le
   match d,hd with
   |0,hd=>omega
   |d+1,hd=>exact Zly hs hg d (j+1) _ _ h2 (by omega)
theorem ZzK(hg:Good rs):∃kn bs,PeelP k rs kn bs:=by
 by_cases hz:sizeOfK k=0
 ·exact⟨_,_,(ZbN hz).1⟩
 ·exact Zly (by omega) hg _ 0 _ _ ⟨rfl,rfl⟩ (Nat.le_refl _)
def peelC(k:Int)(rs:List RV)(kn:List Nat)(bs:List ByteArray):List (List Nat×ByteArray):=toldTo k kn bs k.toNat++restL k rs kn bs
theorem ZoB(k:Int)(a:Option Addr)(n c:Nat)(rs:List RV)(kn:List Nat)(bs:List ByteArray)(hPP:PeelP k rs kn bs)(w:World)(ht:Tab w)(h:RowsAt w a n rs)(hs:shortR rs)(hn:n≤300):
  Calls Tryz.prog 210 #[.int .i64 k,.slice a n c] w fun e w'=> ∃a1 m1 c1 us,e=.returned (.slice a1 m1 c1)∧WayR w w' (peelC k rs kn bs) a1 m1 c1 us:=by
 have HP:=hide (Zxi k a n c rs w ht h hs (by omega))
 have HG:=hide (ZmL h hs)
 have HLN:=hide (Zyf h hs)
 have Hs:=hide hs
 have HN:=hide h.1
 clear h hs ht
 go_enter Tryz.func210,Tryz.ntmps210
 go_wp2_with fail
 refine(unhide HP).mono ?_
 rintro e w1 ⟨a1,m1,c1,ts1,a2,m2,c2,ts2,rfl,hP⟩
 obtain⟨s1,s2,l1,l2⟩:=hP.short (unhide HG) (unhide Hs) (unhide HLN)
 obtain⟨kn',bs',p1,o1,i1,e1,o2,i2,e2,hb1⟩:=hP
 obtain⟨rfl,rfl⟩:=hPP.uniq p1
 have hN:=unhide HN
 have q1:=(o1.at' i1).2.1
 have q2:=(o2.at' i2).2.1
 have hba:Below w1.heap.size w1 (w1.alloc (.cells #[.slice a1 m1 c1,.slice a2 m2 c2] 60)):=(Below.refl _ _).alloc (Nat.le_refl _) _
 have HCC:=hide (ZpL w1.heap.size a1 m1 c1 ts1 a2 m2 c2 ts2 w.heap.size w.heap.size (w1.alloc (.cells #[.slice a1 m1 c1,.slice a2 m2 c2] 60)) (by simp) (by simp) (o1.below hba) (o2.below hba) (by omega) (by omega))
 have HE:=hide (show(ts1++ts2).map core=peelC k rs kn bs by rw[List.map_append,e1,e2];rfl)
 have HI:=hide (i1.append i2)
 have HSA:=hide (ZjS s1 s2)
 have HLA:=hide (show(ts1++ts2).length≤1000 by rw[List.length_append];omega)
 have HB1:=hide hb1
 have HBA:=hide hba
 clear HP p1 o1 i1 e1 o2 i2 e2 hb1 s1 s2 l1 l2 q1 q2 hba hN hPP
 go_wp2_with fail
 refine(unhide HCC).mono ?_
 rintro e w2 ⟨a3,m3,c3,rfl,ho3,hb3⟩
 have HR:=hide (show WayR w w2 (peelC k rs kn bs) a3 m3 c3 (ts1++ts2) from⟨ho3.mono (Nat.le_trans (unhide HB1).size (unhide HBA).size),((unhide HI).below (unhide HBA)).below hb3,unhide HSA,unhide HLA,unhide HE,below0 (below0 (unhide HB1) (unhide HBA)) hb3⟩)
 clear ho3 hb3 HCC
 go_wp2
 go_ret
 exact⟨_,_,_,_,rfl,unhide HR⟩
theorem Zpp(k:Int)(a:Option Addr)(n c:Nat)(rs:List RV)(kn:List Nat)(bs:List ByteArray)(hPP:PeelP k rs kn bs)(w:World)(ht:Tab w)(h:RowsAt w a n rs)(hs:shortR rs)(hn:n≤300):
  Calls Tryz.prog 186 #[.int .i64 k,.slice a n c] w fun e w'=> ∃a1 m1 c1,e=.returned (.tuple #[.slice a1 m1 c1,.bool (okC k (peelC k rs kn bs))])∧OwnT w' w.heap.size (.slice a1 m1 c1) (solveC k (peelC k rs kn bs))∧Below w.heap.size w w':=by
 have HX:=hide (Zjg k a n c (peelC k rs kn bs) w ht (fun w1 hb=>ZoB k a n c rs kn bs hPP w1 (ht.below hb) (h.below hb) hs hn))
 clear ht h hs hPP
 go_enter Tryz.func186,Tryz.ntmps186
 go_wp2_with fail
 refine(unhide HX).mono ?_
 rintro e w1 ⟨a1,m1,c1,rfl,ho,hb⟩
 have HO:=hide ho
 have HB:=hide hb
 clear ho hb HX
 go_wp2
 go_ret2
 exact⟨_,_,_,rfl,unhide HO,unhide HB⟩
theorem Zp1{b:Nat}(hs:0<sizeOfK k)(hb:(b:Int)<k):Zaj k (unitL k (b:Int))=true:=by
 refine Zbq.2 ⟨by rw[Zea hb];exact hs,Zea hb,fun i hi=>?_⟩
 rw[Zde hs hb,decide_eq_false (by omega)]
theorem Zqe(kn:List Nat)(h:Zaj k xs=true):Zaj k (dropL xs kn)=true:=by
 obtain⟨h1,h2,h3⟩:=Zbq.1 h
 refine Zbq.2 ⟨by rw[ZbB];exact h1,by rw[ZbB];exact h2,fun i hi=>?_⟩
 rw[ZbC,h3 i hi];rfl
theorem ZiI(hP:PeelP k rs kn bs)(hg:Good rs):∀x∈peelC k rs kn bs,Zaj k x.1=true:=by
 intro x hx
 by_cases hz:sizeOfK k=0
 ·obtain⟨p1,p2,p3⟩:=ZbN (rs:=rs) hz
  obtain⟨rfl,rfl⟩:=hP.uniq p1
  unfold peelC at hx
  rw[p2,p3]at hx;cases hx
 ·obtain⟨j,hK⟩:=hP.kn hg (by omega)
  unfold peelC at hx
  rcases List.mem_append.1 hx with hx|hx
  ·obtain⟨b,hb,_,rfl⟩:=ZcC hK hx
   exact Zp1 hK.size (by omega)
  ·unfold restL at hx
   obtain⟨r,hr,rfl⟩:=List.mem_map.1 hx
   have:=(List.mem_filter.1 hr).2
   unfold Zgk at this
   rw[Bool.and_eq_true,Bool.and_eq_true]at this
   exact Zqe kn this.1.1
theorem ZgY{ss:List ByteArray}{m:Nat}(h:∀i,(ss.getD i ByteArray.empty).size≤m)(vs:List Nat):∀n,(ofL ss vs n).length≤m
 |0=>by simp[ofL]
 |n+1=>by
  unfold ofL
  split
  ·rw[Zae,Zaa]
   have:=ZgY h vs n
   have:=h n
   omega
  ·exact ZgY h vs n
theorem ZgH{s:ByteArray}(h:∀i,(bs.getD i ByteArray.empty).size≤m)(hs:s.size=m):(txtL bs xs s).size=m:=by
 unfold txtL
 rw[Zkg,Zb1,hs]
 have:=ZgY h xs bs.length
 omega
theorem Zg6{k:Int}{rs:List RV}{m:Nat}(hz:0<sizeOfK k)(hg:Good rs)(hm:∀r∈rs,r.s.size=m):∀{j:Nat} {kn:List Nat} {bs:List ByteArray},Run k rs j kn bs→(∀b,getB kn b=true→(bs.getD b ByteArray.empty).size=m)∧∀b,(bs.getD b ByteArray.empty).size≤m
 |0,kn,bs,⟨h1,h2⟩=>by
  refine⟨(fun b hb=>by rw[h1,ZcS]at hb;cases hb),fun b=>?_⟩
  rw[h2,List.getD_eq_getElem?_getD,List.getElem?_replicate]
  split<;>exact Nat.zero_le _
 |j+1,kn,bs,⟨kn0,bs0,r,h1,h2,h3,h4⟩=>by
  obtain⟨i1,i2⟩:=Zg6 hz hg hm h1
  have hK:=Run.known hz hg h1
  have hr:=List.mem_of_find?_eq_some h2
  have ht:=ZgH (xs:=r.xs) i2 (hm r hr)
  obtain⟨hv,hbits,hk0,hx0,hbk,hfi⟩:=ZdH (hg r hr).1 (List.find?_some h2)
  have hroom:=ZaC hz
  subst h3 h4
  refine⟨fun b hb=>?_,fun b=>?_⟩
  ·rw[ZcH _ _ _ _ (by rw[hK.len];omega)]at hb
   rw[Zcm]
   by_cases e:b=blkOf kn0 r
   ·rw[if_pos ⟨e,by rw[hK.lenb];exact hbk⟩];exact ht
   ·rw[if_neg e]at hb
    rw[if_neg (fun h=>e h.1)]
    exact i1 b hb
  ·rw[Zcm]
   split
   ·omega
   ·exact i2 b
theorem Zr8{ss:List ByteArray}(hP:PeelP (ss.length:Int) rs kn bs)(hg:Good rs)(hz:0<sizeOfK (ss.length:Int))(hh:∀r∈rs,ZbZ ss r.xs r.s=true)(hm:∀r∈rs,r.s.size=m):∀x∈peelC (ss.length:Int) rs kn bs,Zpt ss m x:=by
 intro x hx
 unfold peelC at hx
 obtain⟨⟨j,hj⟩,hn⟩:=id hP
 obtain⟨s1,s2⟩:=Zg6 hz hg hm hj
 have hK:=Run.known hz hg hj
 rcases List.mem_append.1 hx with hx|hx
 ·refine⟨Ztw hP hg hh x hx,?_⟩
  obtain⟨b,hb,hgb,rfl⟩:=ZcC hK hx
  exact s1 b hgb
 ·refine⟨ZtH hP hg hh x hx,?_⟩
  unfold restL at hx
  obtain⟨r,hr,rfl⟩:=List.mem_map.1 hx
  exact ZgH s2 (hm r (List.mem_filter.1 hr).1)
def Zi4(k:Int)(rs:List RV):Nat:=(ZaW (vecsL (rs.filter fun r=>Zaj k r.xs))).length
theorem Zec(hg:Good rs)(hl:∀r∈rs,r.xs.length≤10)(q:RV→Bool):Fit 1048576 (vecsL (rs.filter q)):=fun b hb=>by
 obtain⟨r,hm,rfl⟩:=List.mem_map.1 hb
 have hm:=(List.mem_filter.1 hm).1
 exact⟨(hg r hm).1,by have:=hl r hm;omega⟩
theorem Zwx{ss:List ByteArray}(hP:PeelP (ss.length:Int) rs kn bs)(hg:Good rs)(hl:∀r∈rs,r.xs.length≤10)(hn:rs.length≤300)(hz:0<sizeOfK (ss.length:Int))(hh:∀r∈rs,ZbZ ss r.xs r.s=true)(hm:∀r∈rs,r.s.size=m)(hms:∀b,b<ss.length→(ss.getD b ByteArray.empty).size=m):
  okC (ss.length:Int) (peelC (ss.length:Int) rs kn bs)=decide (Zi4 (ss.length:Int) rs=ss.length)∧solveC (ss.length:Int) (peelC (ss.length:Int) rs kn bs)=if Zi4 (ss.length:Int) rs=ss.length then ss else []:=by
 have hval:=ZiI hP hg
 have hz2:=Zas (ss.length:Int)
 have hroom:=ZaC hz
 obtain⟨j,hK⟩:=hP.kn hg hz
 have hf:FitC 1048576 (peelC (ss.length:Int) rs kn bs):=fun v hv=>by
  obtain⟨x,hx,rfl⟩:=List.mem_map.1 hv
  refine⟨?_,by have:=(Za7 (hval x hx)).2.1;omega⟩
  unfold peelC at hx
  rcases List.mem_append.1 hx with hx|hx
  ·obtain⟨b,hb,_,rfl⟩:=ZcC hK hx
   exact ZaI (by omega)
  ·unfold restL at hx
   obtain⟨r,hr,rfl⟩:=List.mem_map.1 hx
   exact Za4 (hg r (List.mem_filter.1 hr).1).1 _
 have hln:(peelC (ss.length:Int) rs kn bs).length≤100000:=by
  unfold peelC toldTo restL
  rw[List.length_append,List.length_map,List.length_map]
  have h1:=List.length_filter_le (fun b=>getB kn b) (List.range (ss.length:Int).toNat)
  have h2:=List.length_filter_le (Zgk (ss.length:Int) kn) rs
  rw[List.length_range]at h1
  omega
 have hr:(ZaW (vecsC (peelC (ss.length:Int) rs kn bs))).length=Zi4 (ss.length:Int) rs:=Zt6 hf (Zec hg hl _) (ZkY hP hg)
 obtain⟨h1,h2,h3⟩:=Zo7 (m:=m) hz hf hln hval (Zr8 hP hg hz hh hm) hms
 rw[hr]at h1 h2 h3
 refine⟨h1,?_⟩
 by_cases e:Zi4 (ss.length:Int) rs=ss.length
 ·rw[if_pos e];exact h2 e
 ·rw[if_neg e];exact h3 e
theorem Zq7(k z n:Int)(w:World):
  Calls Tryz.prog 184 #[.int .i64 k,.int .i64 z,.int .i64 n] w fun e w'=>e=.returned (.pointer (some ⟨w.heap.size,0,none⟩))∧StAt w' w.heap.size w.heap.size k z (capN n) (.slice none 0 0) [] false∧Below w.heap.size w w':=by
 have h1:=Zje n
 have h2:=ZiY n
 go_enter Tryz.func184,Tryz.ntmps184
 go_wp2
 go_ret
 exact⟨rfl,⟨Zzb _ _ _ _ _ _ _,Nat.le_refl _,OwnS.nil _ _,OwnRs.nil _ _,Nat.zero_le _,ZfQ n,Ze0⟩,(Below.refl _ _).alloc (Nat.le_refl _) _⟩
theorem Zy6(g B:Nat)(k z:Int)(m:Nat)(v:Value)(rs:List RV)(ov:Bool)(w:World)(h:StAt w g B k z m v rs ov):
  Calls Tryz.prog 85 #[.pointer (some ⟨g,0,none⟩)] w fun e w'=>e=.returned (.int .i64 (rs.length:Int))∧w'=w:=by
 obtain⟨a,c,rfl, -, -, -⟩:=h.at
 obtain⟨h0,h1,h2,h3,h4⟩:=h.blk.at
 clear h
 go_enter Tryz.func85,Tryz.ntmps85
 go_wp2
 go_ret
 exact⟨rfl,rfl⟩
theorem Zy5(w:World):Calls Tryz.prog 85 #[.pointer none] w fun e w'=>e=.returned (.int .i64 0)∧w'=w:=by
 go_enter Tryz.func85,Tryz.ntmps85
 go_wp2
 go_ret
 exact⟨rfl,rfl⟩
def rankN(rs:List RV):Nat:=(keepL (vecsL rs) rs.length).length
theorem ZmU(g B:Nat)(k z:Int)(m:Nat)(v:Value)(rs:List RV)(ov:Bool)(w:World)(ht:Tab w)(h:StAt w g B k z m v rs ov):
  Calls Tryz.prog 86 #[.pointer (some ⟨g,0,none⟩)] w fun e w'=>e=.returned (.int .i64 (rankN rs:Int))∧Below w.heap.size w w':=by
 obtain⟨a,c,rfl,hR, -, -⟩:=h.at
 obtain⟨h0,h1,h2,h3,h4⟩:=h.blk.at
 have HK:=hide (Zun a rs.length c rs w ht hR h.rows.rows h.short (by have:=h.le;have:=h.most;omega))
 clear h hR ht
 go_enter Tryz.func86,Tryz.ntmps86
 go_wp2_with (go_at_call 145;refine(unhide HK).mono ?_;rintro e w1 ⟨rfl,hb1⟩)
 go_ret
 exact⟨rfl,hb1⟩
theorem ZuP(w:World):Calls Tryz.prog 86 #[.pointer none] w fun e w'=>e=.returned (.int .i64 0)∧w'=w:=by
 go_enter Tryz.func86,Tryz.ntmps86
 go_wp2
 go_ret
 exact⟨rfl,rfl⟩
theorem ZiA(a:Option Addr)(n c:Nat)(xs:List Nat)(s:ByteArray)(w:World)(h:RowAt w a n xs)(hn:n≤1048576)(hs:s.size≤1048576):
  Calls Tryz.prog 212 #[.agg #[.slice a n c,.string s]] w fun e w'=> ∃a2 c2,e=.returned (.agg #[.slice a2 n c2,.string s])∧Own w' w.heap.size (.slice a2 n c2) xs∧Below w.heap.size w w':=by
 have hx1:=(Zd0 w (.slice a n c) (.string s)).alloc (.cells #[.slice none 0 0,.string ⟨#[]⟩] 57)
 have hx2:=Zd0 (w.alloc (.cells #[.slice a n c,.string s] 57)) (.slice none 0 0) (.string ⟨#[]⟩)
 rw[Zab]at hx2
 have hb0:Below w.heap.size w ((w.alloc (.cells #[.slice a n c,.string s] 57)).alloc (.cells #[.slice none 0 0,.string ⟨#[]⟩] 57)):=Zel (Below.refl _ w) (Below.refl _ _)
 have hsz:((w.alloc (.cells #[.slice a n c,.string s] 57)).alloc (.cells #[.slice none 0 0,.string ⟨#[]⟩] 57)).heap.size=w.heap.size+2:=by rw[Zab,Zab]
 have hr:=h.below hb0
 have hnn:=h.1
 generalize hW:(w.alloc (.cells #[.slice a n c,.string s] 57)).alloc (.cells #[.slice none 0 0,.string ⟨#[]⟩] 57)=W at*
 have HCL:=hide (fun wx (hb:Below W.heap.size W wx)=>ZbE a n c xs wx (hr.below hb) (by omega))
 have HSC:=hide (fun wx=>Zbp s wx hs)
 have HQ:=hide (fun wx (hb:Below W.heap.size W wx)=>show _∧_ from⟨hx1.below hb,hx2.below hb⟩)
 have HB0:=hide hb0
 have HN:=hide hnn
 have HZ:=hide hsz
 obtain⟨⟨c0,c1⟩, -, -⟩:=hx1
 clear h hr hx2 hb0 hnn hsz
 go_enter Tryz.func212,Tryz.ntmps212
 go_wp2_with fail
 go_region_held3 (fun w'=>w'.cell? ⟨w.heap.size,0,none⟩=some (.slice a n c)∧w'.cell? ⟨w.heap.size,1,none⟩=some (.string s)) (go_keep) (first
  |(go_at_call 236;refine(unhide HCL _ (by first|exact unhide D2|exact(Below.refl _ _).drew)).mono ?_;rintro e w1 ⟨v1,rfl,ho1,hb1⟩;obtain⟨a2,c2,rfl, -⟩:=ho1.row;have D1:=hide (show Below W.heap.size W w1 from below0 (by first|exact unhide D2|exact(Below.refl _ _).drew) hb1);rw[unhide HN]at ho1⊢;have HO1:=hide (ho1.mono (B':=w.heap.size+2) (Nat.le_of_eq (unhide HZ).symm));obtain⟨⟨⟨q0,q1⟩, -, -⟩,⟨⟨y0,y1⟩,f0,f1⟩⟩:=unhide HQ w1 (unhide D1);clear ho1 hb1)
  |(go_at_call 89;refine(unhide HSC _).mono ?_;rintro e w2 ⟨rfl,hb2⟩;have D2:=hide (show Below W.heap.size W w2 from below0 (by first|exact unhide D1|exact(Below.refl _ _).drew) hb2);(first|(have HO1:=hide ((unhide HO1).below hb2))|skip);obtain⟨⟨⟨q0,q1⟩, -, -⟩,⟨⟨y0,y1⟩,f0,f1⟩⟩:=unhide HQ w2 (unhide D2);clear hb2))
 all_goals go_wp2
 exact bodyPost_ret (v:=.agg #[.slice a2 n c2,.string s]) (by simp[results,Tryz.results212,go_sem,y0,y1]) rfl
  ⟨a2,c2,rfl,(((unhide HO1).other 0 _ (Nat.lt_succ_self _)).other 1 _ (Nat.lt_succ_self _)).mono (Nat.le_add_right _ _),((below0 (unhide HB0) (unhide D2)).setCell (p:=⟨w.heap.size+1,0,none⟩) (Nat.le_succ _) _).setCell (p:=⟨w.heap.size+1,1,none⟩) (Nat.le_succ _) _⟩
theorem Zv3(g B:Nat)(k z:Int)(m:Nat)(v:Value)(rs:List RV)(ov:Bool)(a:Option Addr)(n c:Nat)(xs:List Nat)(s:ByteArray)(w:World)(h:StAt w g B k z m v rs ov)(hr:RowAt w a n xs)(hn:n≤1048576)(hs:s.size≤1048576):
  Calls Tryz.prog 206 #[.pointer (some ⟨g,0,none⟩),.agg #[.slice a n c,.string s]] w fun e w'=>e=.returned (.bool (fitB k z (xs,s)))∧Below w.heap.size w w':=by
 have hb0:Below w.heap.size w (w.alloc (.cells #[.slice a n c,.string s] 57)):=(Below.refl _ _).alloc (Nat.le_refl _) _
 have hx:=ZcM w (.slice a n c) (.string s)
 have hst:=h.below hb0
 have hrr:=hr.below hb0
 generalize hW:w.alloc (.cells #[.slice a n c,.string s] 57)=W at*
 have cV:=hide (Za6 (W:=W) (fun w' hb=>(Zff a n c xs k w' (hrr.below hb)).mono fun e w'' ⟨he,hb2⟩=>⟨retV he,hb2⟩))
 have cC:=hide (Za6 (W:=W) (fun w' hb=>Zin (Zbt a n c xs w' (hrr.below hb) hn)))
 obtain⟨k0,k1, -, -, -⟩:=hst.blk.at
 obtain⟨c0,c1⟩:=hx
 have r0:=cell_regrown k0
 have r1:=cell_regrown k1
 have r2:=cell_regrown c0
 have r3:=cell_regrown c1
 have HB0:=hide hb0
 have hfit:fitB k z (xs,s)=(Zaj k xs&&decide (0<cnt xs)&&decide ((s.size:Int)=z)):=rfl
 rw[hfit]
 clear h hr hst hrr hb0 hfit k0 k1 c0 c1
 generalize cnt xs=N at*
 generalize Zaj k xs=V at*
 have hd2:decide ((0:Int)<(N:Int))=decide (0<N):=by by_cases h:0<N<;>simp[h]
 have hd3:((s.size:Int)==z)=decide ((s.size:Int)=z):=by by_cases h:(s.size:Int)=z<;>simp[h]
 go_enter Tryz.func206,Tryz.ntmps206
 cases hv:V<;>cases h0:decide (0<N)<;>cases h1:decide ((s.size:Int)=z)
 all_goals (subst hv;rw[h0]at hd2;rw[h1]at hd3)
 all_goals go_wp2_with fail
 all_goals refine wp_region_quiet_below (by kernel_rfl) (by kernel_rfl) ?_
 all_goals (repeat (with_reducible refine wpQuiet_step (fun K hK=>?_);go_simp;first|(with_reducible refine hK _ ?_;clear hK K)|(apply Exists.intro;apply And.intro;(intro _;first|(go_at_call 180;exact unhide cV _ _)|(go_at_call 181;exact unhide cC _ _));with_reducible refine hK _ ?_;clear hK K)))
 all_goals refine wpQuiet_nil ?_
 all_goals (intro _ hw';obtain⟨⟨dq,osq⟩,hw''⟩:=hw';subst hw'')
 all_goals have C1:=hide (below_regrown W dq osq)
 all_goals clear cV cC r0 r1 r2 r3
 all_goals go_wp2
 all_goals go_ret
 all_goals exact⟨rfl,below0 (unhide HB0) (unhide C1)⟩
theorem Zpy(p v0 v1:Value)(w:World):Calls Tryz.prog 207 #[p,.agg #[v0,v1]] w fun e w'=>e=.returned (.int .i64 1)∧Below w.heap.size w w':=by
 go_enter Tryz.func207,Tryz.ntmps207
 go_wp2
 go_ret
 exact⟨rfl,(Below.refl _ _).alloc (Nat.le_refl _) _⟩
theorem Zkv(g B:Nat)(k z:Int)(m:Nat)(v:Value)(rs:List RV)(ov:Bool)(v0 v1:Value)(w:World)(h:StAt w g B k z m v rs ov):
  Calls Tryz.prog 208 #[.pointer (some ⟨g,0,none⟩),.agg #[v0,v1]] w fun e w'=>e=.returned (.int .i64 5)∧StAt w' g B k z m v rs true∧Tu (stF g v) w w':=by
 have hb0:Below w.heap.size w (w.alloc (.cells #[v0,v1] 57)):=(Below.refl _ _).alloc (Nat.le_refl _) _
 have hst:=h.below hb0
 have HS:=hide hst
 have HB0:=hide hb0
 obtain⟨k0,k1,k2,k3,k4⟩:=hst.blk.at
 have f4:=hst.blk.frz 4
 clear h hst hb0
 go_enter Tryz.func208,Tryz.ntmps208
 go_wp2
 go_ret
 have hst:=unhide HS
 have hg:=Zad (w.alloc (.cells #[v0,v1] 57)) g 4 (.bool true)
 have ht:Tu (stF g v) (w.alloc (.cells #[v0,v1] 57)) ((w.alloc (.cells #[v0,v1] 57)).setCell ⟨g,4,none⟩ (.bool true)):=Tu.of_gb hg fun j _ e=>.inl (Option.some.inj e).symm
 refine⟨rfl,⟨hst.blk.set4 _,hst.lo,?_,?_,hst.le,hst.most,hst.short⟩,ht.after (unhide HB0)⟩
 ·refine World.ownsRow.kept hst.own hg ?_
  by_cases hv:v.ownBlock=none
  ·exact .inl hv
  ·refine .inr fun e=>?_
   obtain⟨cur,hc⟩:=hst.own.blk5 e
   have:=hst.blk
   unfold Bk5 at this
   rw[this]at hc
   simp only[Option.some.injEq,Obj.cells.injEq]at hc
   exact absurd hc.2.1 (by decide)
 ·exact hst.rows.tu ht hst.words
theorem Zlw {ops : Array Oper} {o : Oper} {a : Act} {w : World} {K : Act → World → Prop} {Q : Exit → Act → World → Prop} {E : Prop} (hgd : o.guard = none) (s x : Operand)
    (ho : o.op = .call { callee := .builtin .append, args := #[s, x], argTypes := #[60, 60] }) (B : Nat) (v : Value) (rs : List RV) (r : RV) (hs : a.eval s = v) (hown : OwnS w B v rs) (b : Nat)
    (hx : a.eval x = .slice (some ⟨b, 0, none⟩) 1 1) (hb : w.heap[b]? = some (.cells #[.slice r.a r.n r.c, .string r.s] 57 (0, 0))) (hn : rs.length ≤ 1000000) (hB : B ≤ w.heap.size)
    (h : ∀ g cap w', OwnS w' B (.slice (some ⟨g, 0, none⟩) (rs.length + 1) cap) (rs ++ [r]) → w.grownBy w' v.ownBlock → (v.ownBlock = some g ∨ g = w.heap.size) → K (a.put o.dst (.slice (some ⟨g, 0, none⟩) (rs.length + 1) cap)) w') :
    if Region.wanted o (yielded ops a.tmps) = true then Oper.wp Tryz.prog o a w K Q else E := by
  obtain ⟨i0, hi, hz0, hz1, hz2⟩ := info_parts Zdx
  refine step_append_lies w hgd s x 60 ho B 57 i0 (.agg #[.slice none 0 0, .string ⟨#[]⟩]) 2 40 Tryz.underlying60 hi hz0 hz1 hz2 rfl (by decide) v rs.length (cellsR rs) hs hown ⟨b, 0, none⟩ 1 1 [.slice r.a r.n r.c, .string r.s] hx rfl
    (World.news_of_block hb) (fun u hu => by rcases List.mem_cons.1 hu with rfl | hu; · rfl
                                             · rw [List.mem_singleton.1 hu]; rfl) (by decide) (by unfold maxLen; omega) (by omega) hB _ rfl (fun g cap w' h2 h3 h4 _ => h g cap w' ?_ h3 h4)
  show w'.ownsRow B 57 2 _ (rs ++ [r]).length (cellsR (rs ++ [r]))
  rw [List.length_append, ZbH]
  exact h2
theorem Zsc{W w1 w2:World}{v:Value}{ov:Bool}{s:ByteArray}{a2:Option Addr}{c2 g2 cap:Nat}(hgw:g<w.heap.size)(hb0:Below w.heap.size w W)(hst:StAt W g B k z m v rs ov)(hd1:Below W.heap.size W w1)
  (ho1:Own w1 W.drew.heap.size (.slice a2 n c2) xs) (hb2:Below w1.heap.size w1 (w1.alloc (.cells #[.slice a2 n c2,.string s] 57)))
  (ho2:OwnS w2 B (.slice (some ⟨g2,0,none⟩) (rs.length+1) cap) (rs++[⟨a2,n,c2,xs,s⟩])) (hg2:(w1.alloc (.cells #[.slice a2 n c2,.string s] 57)).grownBy w2 v.ownBlock) (hat:v.ownBlock=some g2∨g2=(w1.alloc (.cells #[.slice a2 n c2,.string s] 57)).heap.size)
  (hn:n≤10) (hs:s.size≤1000) (hl:rs.length<m):
  ∃v' r,(Ending.returned (.int .i64 0):Ending)=.returned (.int .i64 0)∧core r=(xs,s)∧StAt (w2.setCell ⟨g,3,none⟩ (.slice (some ⟨g2,0,none⟩) (rs.length+1) cap)) g B k z m v' (rs++[r]) ov∧Tu (stF g v) w (w2.setCell ⟨g,3,none⟩ (.slice (some ⟨g2,0,none⟩) (rs.length+1) cap))∧
   (v'.ownBlock=v.ownBlock∨∀j,v'.ownBlock=some j→w.heap.size≤j):=by
 have h1:=(hst.below hd1).below hb2
 generalize hX:w1.alloc (.cells #[.slice a2 n c2,.string s] 57)=X at*
 have hne:some g≠v.ownBlock:=fun e=>by
  obtain⟨cur,hc⟩:=h1.own.blk5 e.symm
  have:=h1.blk
  unfold Bk5 at this
  rw[this]at hc
  simp only[Option.some.injEq,Obj.cells.injEq]at hc
  exact absurd hc.2.1 (by decide)
 have hk2:=h1.blk.kept hg2 hne
 have hgg:g≠g2:=fun e=>by
  subst e
  obtain⟨cur,hc⟩:=ho2.blk5 (g:=g) rfl
  have:=hk2
  unfold Bk5 at this
  rw[this]at hc
  simp only[Option.some.injEq,Obj.cells.injEq]at hc
  exact absurd hc.2.1 (by decide)
 have hgs:=Zad w2 g 3 (.slice (some ⟨g2,0,none⟩) (rs.length+1) cap)
 have ht:Tu (stF g v) X (w2.setCell ⟨g,3,none⟩ (.slice (some ⟨g2,0,none⟩) (rs.length+1) cap)):=
  (Tu.of_gb (F:=stF g v) hg2 fun j _ e=>.inr e).trans (Tu.of_gb (F:=stF g v) hgs fun j _ e=>.inl (Option.some.inj e).symm) fun _ _ h=>h
 have hbx:Below w.heap.size w X:=below0 (below0 hb0 hd1) hb2
 have hw1:W.drew.heap.size=W.heap.size:=rfl
 have ho1':Own X B (.slice a2 n c2) xs:=(ho1.mono (by rw[hw1];exact hst.lob)).below hb2
 refine⟨_,⟨a2,n,c2,xs,s⟩,rfl,rfl,⟨hk2.set3 _,hst.lo,?_,?_,?_,hst.most,hst.short.snoc hn hs⟩,ht.after hbx,?_⟩
 ·refine World.ownsRow.kept ho2 hgs (.inr fun e=>hgg ?_)
  exact(Option.some.inj e).symm
 ·exact(h1.rows.tu ht h1.words).snoc (ho1'.tu ht fun j hj=>by
   obtain⟨cur,hc⟩:=ho1'.blkU hj
   exact h1.words j cur hc)
 ·rw[List.length_append,List.length_singleton];omega
 ·rcases hat with e|e
  ·exact .inl (by rw[e];rfl)
  ·refine .inr fun j hj=>?_
   obtain rfl:g2=j:=Option.some.inj hj
   rw[e]
   exact hbx.size
theorem ZoN(g B:Nat)(k z:Int)(m:Nat)(v:Value)(rs:List RV)(ov:Bool)(a:Option Addr)(n c:Nat)(xs:List Nat)(s:ByteArray)(w:World)(h:StAt w g B k z m v rs ov)(hr:RowAt w a n xs)(hn:n≤10)(hs:s.size≤1000)(hl:rs.length<m):
  Calls Tryz.prog 209 #[.pointer (some ⟨g,0,none⟩),.agg #[.slice a n c,.string s]] w fun e w'=> ∃v' r,e=.returned (.int .i64 0)∧core r=(xs,s)∧StAt w' g B k z m v' (rs++[r]) ov∧Tu (stF g v) w w'∧
   (v'.ownBlock=v.ownBlock∨∀j,v'.ownBlock=some j→w.heap.size≤j):=by
 have hb0:Below w.heap.size w (w.alloc (.cells #[.slice a n c,.string s] 57)):=(Below.refl _ _).alloc (Nat.le_refl _) _
 have hx:=ZcM w (.slice a n c) (.string s)
 have hst:=h.below hb0
 have hrr:=hr.below hb0
 have hgw:g<w.heap.size:=h.lt
 generalize hW:w.alloc (.cells #[.slice a n c,.string s] 57)=W at*
 have HCO:=hide (ZiA a n c xs s W.drew (hrr.below (Below.refl _ _).drew) (by omega) (by omega))
 obtain⟨k0,k1,k2,k3,k4⟩:=hst.blk.at
 obtain⟨c0,c1⟩:=hx
 have HB0:=hide hb0
 have HS:=hide hst
 have HLN:Hid (rs.length≤1000000):=hide (by have:=hst.most;omega)
 have HNE:Hid (some g≠v.ownBlock):=hide fun e=>by
  obtain⟨cur,hc⟩:=hst.own.blk5 e.symm
  have:=hst.blk
  unfold Bk5 at this
  rw[this]at hc
  simp only[Option.some.injEq,Obj.cells.injEq]at hc
  exact absurd hc.2.1 (by decide)
 have HNX:Hid (some w.heap.size≠v.ownBlock):=hide fun e=>by
  have:=(World.ownsRow.lt h.own _ e.symm).2
  omega
 have hne:g≠w.heap.size:=Nat.ne_of_lt hgw
 have hne2:w.heap.size≠g:=Nat.ne_of_gt hgw
 clear h hr hst hrr hb0
 go_enter Tryz.func209,Tryz.ntmps209
 go_wp2_with fail
 go_region_law (first
  |(go_simp;go_at_call 212;refine(unhide HCO).mono ?_;rintro e w1 ⟨a2,c2,rfl,ho1,hb1⟩;have D1:=hide (show Below W.heap.size W w1 from below0 (Below.refl _ _).drew hb1);have hs1:=(unhide HS).below (unhide D1);have HS1:=hide hs1;have HO1:=hide ho1;obtain⟨-, -, -,q3, -⟩:=hs1.blk.at;have q0:=((unhide D1).cell (p:=⟨w.heap.size,0,none⟩) (World.block_lt_of_cell? W _ c0)).trans c0;have q1:=((unhide D1).cell (p:=⟨w.heap.size,1,none⟩) (World.block_lt_of_cell? W _ c1)).trans c1;have hb2:Below w1.heap.size w1 (w1.alloc (.cells #[.slice a2 n c2,.string s] 57)):=(Below.refl _ _).alloc (Nat.le_refl _) _;have HB2:=hide hb2;have q3':=(hb2.cell (p:=⟨g,3,none⟩) (World.block_lt_of_cell? w1 _ q3)).trans q3;have hnw:=heap_alloc_new w1 (.cells #[.slice a2 n c2,.string s] 57);have HNW:=hide hnw;have HBB:=hide (Nat.le_trans (unhide HS1).lob hb2.size);clear ho1 hb1 hs1 hb2 hnw)
  |(refine Zlw (by rfl) _ _ (by rfl) B v rs ⟨a2,n,c2,xs,s⟩ (by rfl) ((unhide HS1).own.below (unhide HB2)) w1.heap.size (by rfl) (unhide HNW) (unhide HLN) (unhide HBB) ?_;intro g2 cap w2 ho2 hg2 hat;have HO2:=hide ho2;have HG2:=hide hg2;have HAT:=hide hat;have hgb:=(unhide HS1).below (unhide HB2);have hk2:=hgb.blk.kept hg2 (unhide HNE);obtain⟨-, -, -,u3, -⟩:=hk2.at;have uf:=hk2.frz 3;have HK2:=hide hk2;have u0:=hg2.cell (a:=⟨w.heap.size,0,none⟩) (((unhide HB2).cell (World.block_lt_of_cell? w1 _ q0)).trans q0) (unhide HNX);have u1:=hg2.cell (a:=⟨w.heap.size,1,none⟩) (((unhide HB2).cell (World.block_lt_of_cell? w1 _ q1)).trans q1) (unhide HNX);clear ho2 hg2 hat hgb hk2))
 all_goals go_wp2
 all_goals go_ret
 all_goals exact Zsc hgw (unhide HB0) (unhide HS) (unhide D1) (unhide HO1) (unhide HB2) (unhide HO2) (unhide HG2) (unhide HAT) hn hs hl
def takF(f l:Bool):FuncId:=match f,l with
 |false,_=>207
 |true,true=>209
 |true,false=>208
theorem ZtZ(g B:Nat)(k z:Int)(m:Nat)(v:Value)(rs:List RV)(ov:Bool)(a:Option Addr)(n c:Nat)(xs:List Nat)(s:ByteArray)(w:World)(h:StAt w g B k z m v rs ov)(hr:RowAt w a n xs)(hn:n≤10)(hs:s.size≤1000):
  Calls Tryz.prog 185 #[.pointer (some ⟨g,0,none⟩),.agg #[.slice a n c,.string s]] w fun e w'=>e=.returned (.func (.func (takF (fitB k z (xs,s)) (decide (rs.length<m)))) #[.pointer (some ⟨g,0,none⟩)] #[])∧Below w.heap.size w w':=by
 have hmf:∀(fn:Fn) (first cap:Array Value) (w:World),(Instr.makeFunc fn first cap).run Tryz.prog w=.ok (.func fn first cap) w:=fun _ _ _ _=>rfl
 have hb0:Below w.heap.size w (w.alloc (.cells #[.slice a n c,.string s] 57)):=(Below.refl _ _).alloc (Nat.le_refl _) _
 have hst:=h.below hb0
 have hle:=h.le
 have HF:=hide (Zv3 g B k z m v rs ov a n c xs s _ hst (hr.below hb0) (by omega) (by omega))
 obtain⟨av,cv,rfl, -, -, -⟩:=hst.at
 have HS:=hide hst
 have HB0:=hide hb0
 clear h hr hst hb0
 generalize hT:takF (fitB k z (xs,s)) (decide (rs.length<m))=T
 have HT:=hide hT
 clear hT
 go_enter Tryz.func185,Tryz.ntmps185
 go_wp2_with fail
 refine(unhide HF).mono ?_
 rintro e w1 ⟨rfl,hb1⟩
 have HB1:=hide (below0 (unhide HB0) hb1)
 obtain⟨k0,k1,k2,k3,k4⟩:=((unhide HS).below hb1).blk.at
 clear HF HS hb1
 generalize fitB k z (xs,s)=F at*
 cases F
 ·go_wp2
  go_ret
  exact⟨by rw[←unhide HT];rfl,unhide HB1⟩
 ·by_cases hl:rs.length<m
  ·have hd:((rs.length:Int)==(m:Int))=false:=by rw[beq_eq_false_iff_ne];omega
   go_wp2
   go_quiet (fail)
   go_wp2
   go_ret
   exact⟨by rw[←unhide HT,decide_eq_true hl];rfl,⟨(unhide HB1).os,(unhide HB1).tape,(unhide HB1).output,(unhide HB1).size,(unhide HB1).block⟩⟩
  ·have hd:((rs.length:Int)==(m:Int))=true:=by rw[beq_iff_eq];omega
   go_wp2
   go_quiet (fail)
   go_wp2
   go_ret
   exact⟨by rw[←unhide HT,decide_eq_false hl];rfl,⟨(unhide HB1).os,(unhide HB1).tape,(unhide HB1).output,(unhide HB1).size,(unhide HB1).block⟩⟩
def PutP(w w':World)(g B:Nat)(k z:Int)(m:Nat)(v:Value)(rs:List RV)(ov:Bool)(x:List Nat×ByteArray)(e:Ending):Prop:=
 e=.returned (.int .i64 (putE k z m (rs.map core) x))∧∃v' rs',StAt w' g B k z m v' rs' (putO k z m (rs.map core) ov x)∧rs'.map core=putL k z m (rs.map core) x∧Tu (stF g v) w w'∧(v'.ownBlock=v.ownBlock∨∀j,v'.ownBlock=some j→w.heap.size≤j)
theorem ZAY(h:fitB k z x=false):putE k z m L x=1∧putL k z m L x=L∧∀o,putO k z m L o x=o:=by
 unfold putE putL putO
 simp[h]
theorem Zx1(h:fitB k z x=true)(hl:L.length<m):putE k z m L x=0∧putL k z m L x=L++[x]∧∀o,putO k z m L o x=o:=by
 unfold putE putL putO
 simp[h,hl]
theorem ZnN(h:fitB k z x=true)(hl:¬L.length<m):putE k z m L x=5∧putL k z m L x=L∧∀o,putO k z m L o x=true:=by
 unfold putE putL putO
 simp only[h,hl,if_true,if_false,and_false,true_and,not_false_eq_true]
 exact fun _=>trivial
theorem ZrP(g B:Nat)(k z:Int)(m:Nat)(v:Value)(rs:List RV)(ov:Bool)(a:Option Addr)(n c:Nat)(xs:List Nat)(s:ByteArray)(w:World)(h:StAt w g B k z m v rs ov)(hr:RowAt w a n xs)(hn:n≤10)(hs:s.size≤1000):
  Calls Tryz.prog 135 #[.pointer (some ⟨g,0,none⟩),.agg #[.slice a n c,.string s]] w fun e w'=>PutP w w' g B k z m v rs ov (xs,s) e:=by
 have hb0:Below w.heap.size w (w.alloc (.cells #[.slice a n c,.string s] 57)):=(Below.refl _ _).alloc (Nat.le_refl _) _
 have hx:=ZcM w (.slice a n c) (.string s)
 have hst:=h.below hb0
 have HTK:=hide (ZtZ g B k z m v rs ov a n c xs s _ hst (hr.below hb0) hn hs)
 have HX:=hide hx
 have HS:=hide hst
 have HR:=hide (hr.below hb0)
 have HB0:=hide hb0
 have HLM:=hide (show(rs.map core).length=rs.length from List.length_map core)
 obtain⟨c0,c1⟩:=hx
 clear h hr hst hb0
 go_enter Tryz.func135,Tryz.ntmps135
 go_wp2_with fail
 refine(unhide HTK).mono ?_
 rintro e w1 ⟨rfl,hb1⟩
 obtain⟨d0,d1⟩:=(unhide HX).below hb1
 have HB1:=hide (below0 (unhide HB0) hb1)
 have HS1:=hide ((unhide HS).below hb1)
 have HR1:=hide ((unhide HR).below hb1)
 clear HTK HX HS HR hb1 c0 c1
 cases hf:fitB k z (xs,s)
 ·rw[show takF false (decide (rs.length<m))=207 from rfl]
  go_wp2_with (go_at_call 207;refine(Zpy _ _ _ _).mono ?_;rintro e w2 ⟨rfl,hb2⟩)
  go_ret
  obtain⟨p1,p2,p3⟩:=ZAY (m:=m) (L:=rs.map core) hf
  refine⟨by rw[p1];rfl,v,rs,?_,p2.symm,Tu.of_below (below0 (unhide HB1) hb2),.inl rfl⟩
  rw[p3]
  exact(unhide HS1).below hb2
 ·by_cases hl:rs.length<m
  ·rw[show takF true (decide (rs.length<m))=209 by rw[decide_eq_true hl];rfl]
   have HK:=hide (ZoN g B k z m v rs ov a n c xs s w1 (unhide HS1) (unhide HR1) hn hs hl)
   go_wp2_with (go_at_call 209;refine(unhide HK).mono ?_;rintro e w2 ⟨v2,r2,rfl,hc2,hs2,ht2,hv2⟩)
   go_ret
   obtain⟨p1,p2,p3⟩:=Zx1 (m:=m) (L:=rs.map core) hf (by rw[unhide HLM];exact hl)
   refine⟨by rw[p1];rfl,v2,rs++[r2],?_,?_,ht2.after (unhide HB1),hv2.imp id fun q j hj=>Nat.le_trans (unhide HB1).size (q j hj)⟩
   ·rw[p3];exact hs2
   ·rw[p2,List.map_append,←hc2];rfl
  ·rw[show takF true (decide (rs.length<m))=208 by rw[decide_eq_false hl];rfl]
   have HK:=hide (Zkv g B k z m v rs ov (.slice a n c) (.string s) w1 (unhide HS1))
   go_wp2_with (go_at_call 208;refine(unhide HK).mono ?_;rintro e w2 ⟨rfl,hs2,ht2⟩)
   go_ret
   obtain⟨p1,p2,p3⟩:=ZnN (m:=m) (L:=rs.map core) hf (by rw[unhide HLM];exact hl)
   refine⟨by rw[p1];rfl,v,rs,?_,p2.symm,ht2.after (unhide HB1),.inl rfl⟩
   rw[p3];exact hs2
def Zei(n:Nat)(us:List RV):List RV:=us++List.replicate (n-us.length) zR
theorem Zqi(n:Nat):Zei n []=List.replicate n zR:=by simp[Zei]
theorem ZlA(h:us.length≤n):(Zei n us).length=n:=by simp[Zei];omega
theorem Zul(h:us.length=n):Zei n us=us:=by simp[Zei,h]
theorem ZpQ(r:RV)(h:us.length<n):(Zei n us).set us.length r=Zei n (us++[r]):=by
 unfold Zei
 rw[List.set_append_right _ _ (Nat.le_refl _),Nat.sub_self,List.length_append,List.length_singleton,List.append_assoc,show n-us.length=(n-(us.length+1))+1 by omega,List.replicate_succ,List.set_cons_zero]
 rfl
theorem OwnRs.set(h:OwnRs w B rs)(i:Nat)(u:Value)(hg:g<B):OwnRs (w.setCell ⟨g,i,none⟩ u) B rs:=fun r hr=>(h r hr).other i u hg
def OutP(w w':World)(rs:List RV)(e:Ending):Prop:=∃b c us,e=.returned (.slice (some ⟨b,0,none⟩) rs.length c)∧OwnS w' w.heap.size (.slice (some ⟨b,0,none⟩) rs.length c) us∧OwnRs w' w.heap.size us∧us.map core=rs.map core∧Below w.heap.size w w'
theorem Zv5(g B:Nat)(k z:Int)(m:Nat)(v:Value)(rs:List RV)(ov:Bool)(w:World)(h:StAt w g B k z m v rs ov):
  Calls Tryz.prog 187 #[.pointer (some ⟨g,0,none⟩)] w fun e w'=>OutP w w' rs e:=by
 obtain⟨a,c,rfl,hR, -, -⟩:=h.at
 obtain⟨k0,k1,k2,k3,k4⟩:=h.blk.at
 have hln:rs.length≤256:=Nat.le_trans h.le h.most
 have hmk:=Zoo rs.length (by omega)
 have HM:=hide (Zm1 w rs.length (by omega) (Zei rs.length []) (Zqi _))
 have hbm:Below w.heap.size w (w.alloc (.cells (madeCells #[.slice none 0 0,.string ⟨#[]⟩] (rs.length*2)) 57)):=(Below.refl _ _).alloc (Nat.le_refl _) _
 obtain⟨j0,j1,j2,j3,j4⟩:=(h.blk.below hbm).at
 have HBM:=hide hbm
 have HZ:=hide (show w.heap.size+1≤(w.alloc (.cells (madeCells #[.slice none 0 0,.string ⟨#[]⟩] (rs.length*2)) 57)).heap.size by rw[Zab];exact Nat.le_refl _)
 have Hh:=hide hR
 have HSH:=hide h.short
 have HCR:=hide h.rows.rows
 clear h hR hbm
 go_enter Tryz.func187,Tryz.ntmps187
 go_wp2
 go_loopw [19] (fun i wr=> ∃us:List RV,us.length≤rs.length∧i=.int .i64 us.length∧Hid (OwnS wr w.heap.size (.slice (some ⟨w.heap.size,0,none⟩) rs.length rs.length) (Zei rs.length us))∧Hid (OwnRs wr (w.heap.size+1) us)∧Hid (us.map core=(rs.take us.length).map core)∧Hid (Below w.heap.size w wr)∧Hid (w.heap.size+1≤wr.heap.size)) (fun i _=>rs.length-(intOf i).toNat)
 case atStart=>exact⟨[],Nat.zero_le _,rfl,HM,hide (OwnRs.nil _ _),hide rfl,HBM,HZ⟩
 case round=>
  obtain⟨us,hk,rfl,HI,HU,HC,HB,HZ2⟩:=hrel
  clear HM HBM HZ
  by_cases hlt:us.length<rs.length
  ·obtain⟨b,off,rfl,hcl⟩:=((unhide Hh).below (unhide HB)).at hlt
   obtain⟨hc0,hc1⟩:=hcl us.length hlt
   have hlt':(us.length:Int)<(rs.length:Int):=by omega
   have hrow:=((unhide Hh).below (unhide HB)).2.1 us.length hlt
   have hsh:=unhide HSH us.length
   have HTS:=hide (Zpr rs us.length hlt)
   generalize rs.getD us.length .dflt=r at*
   have hb1:Below wr.heap.size wr (wr.alloc (.cells #[.slice r.a r.n r.c,.string r.s] 57)):=(Below.refl _ _).alloc (Nat.le_refl _) _
   have HCO:=hide (ZiA r.a r.n r.c r.xs r.s _ (hrow.below hb1) (by omega) (by omega))
   have HB1:=hide hb1
   obtain⟨hx0,hx1⟩:=ZcM wr (.slice r.a r.n r.c) (.string r.s)
   clear hcl hrow hb1
   go_wp2_with fail
   refine(unhide HCO).mono ?_
   rintro e w2 ⟨a2,c2,rfl,ho2,hb2⟩
   have hB2:=below0 (unhide HB1) hb2
   have hI:=(unhide HI).below hB2
   have hfl:=ZlA hk
   have hcg:=Zbv (Zei rs.length us) us.length (by omega)
   have hcell0:=hI.cellAt hcg.1
   have hcell1:=hI.cellAt hcg.2
   have hI':w2.ownsRow w.heap.size 57 2 (.slice (some ⟨w.heap.size,0,none⟩) rs.length rs.length) rs.length (cellsR (Zei rs.length us)):=by
    have:w2.ownsRow w.heap.size 57 2 (.slice (some ⟨w.heap.size,0,none⟩) rs.length rs.length) (Zei rs.length us).length (cellsR (Zei rs.length us)):=hI
    rwa[hfl]at this
   have hfz0:=hI'.frozenAt (us.length*2)
   have hfz1:=hI'.frozenAt (us.length*2+1)
   have hs2:=hI.stored us.length ⟨a2,r.n,c2,r.xs,r.s⟩
   rw[ZpQ _ hlt]at hs2
   have hZ:=Nat.le_trans (unhide HZ2) (Nat.le_trans (unhide HB1).size (Nat.le_refl _))
   have hu2:=(((unhide HU).below hB2).snoc (r:=⟨a2,r.n,c2,r.xs,r.s⟩) (ho2.mono hZ))
   have HU2:=hide ((hu2.set (us.length*2) (.slice a2 r.n c2) (Nat.lt_succ_self _)).set (us.length*2+1) (.string r.s) (Nat.lt_succ_self _))
   have HC2:=hide (show(us++[(⟨a2,r.n,c2,r.xs,r.s⟩:RV)]).map core=(rs.take (us++[(⟨a2,r.n,c2,r.xs,r.s⟩:RV)]).length).map core by
    rw[List.length_append,List.length_singleton,←unhide HTS,List.map_append,List.map_append,unhide HC];rfl)
   have HS:=hide hs2
   have HB2:=hide (((below0 (unhide HB) hB2).setCell (p:=⟨w.heap.size,us.length*2,none⟩) (Nat.le_refl _) (.slice a2 r.n c2)).setCell (p:=⟨w.heap.size,us.length*2+1,none⟩) (Nat.le_refl _) (.string r.s))
   have HZ3:=hide (show w.heap.size+1≤((w2.setCell ⟨w.heap.size,us.length*2,none⟩ (.slice a2 r.n c2)).setCell ⟨w.heap.size,us.length*2+1,none⟩ (.string r.s)).heap.size by
    have:=hB2.size
    have:=unhide HZ2
    simp
    omega)
   have HLE:=hide (show(us++[(⟨a2,r.n,c2,r.xs,r.s⟩:RV)]).length=us.length+1 by rw[List.length_append];rfl)
   clear HCO HB1 ho2 hb2 hB2 hI hI' hfl hcg hs2 hu2 hZ HI HB HU HC HZ2 HTS
   generalize (Zei rs.length us).getD us.length .dflt=zz at*
   go_wp2
   go_roundw
   case rel=>exact⟨us++[⟨a2,r.n,c2,r.xs,r.s⟩],by rw[unhide HLE];omega,by rw[unhide HLE];go_num,HS,HU2,HC2,HB2,HZ3⟩
   case measure=>simp[intOf];omega
  ·have hul:us.length=rs.length:=by omega
   rw[Zul hul]at HI
   rw[hul,List.take_length]at HC
   go_wp2
   go_ret
   exact⟨_,_,us,rfl,unhide HI,(unhide HU).mono (Nat.le_succ _),unhide HC,unhide HB⟩
def ZcB(L:List (List Nat×ByteArray)):Nat:=(keepL (L.map Prod.fst) L.length).length
theorem Zsi(rs:List RV):vecsL rs=(rs.map core).map Prod.fst:=by
 unfold vecsL
 rw[List.map_map];rfl
theorem Zd4(rs:List RV):rankN rs=ZcB (rs.map core):=by
 unfold rankN ZcB
 rw[Zsi,List.length_map]
theorem ZoD{w':World}(hu:RowsIn w us)(he:us.map core=rs.map core)(hr:RowsIn w' rs)(hs:shortR rs):shortR us:=
 Zia hu he fun x hx=>by
  obtain⟨r,hm,rfl⟩:=List.mem_map.1 hx
  obtain⟨i,hi,rfl⟩:=List.mem_iff_getElem.1 hm
  have h1:=(hr _ (List.getElem_mem hi)).1.1
  have h2:=hs i
  rw[List.getD_eq_getElem?_getD,List.getElem?_eq_getElem hi]at h2
  simp only[Option.getD_some]at h2
  exact⟨by show(rs[i]).xs.length≤10;rw[h1];exact h2.1,h2.2⟩
theorem OutP.at{w':World}{a:Option Addr}{c:Nat}(ho:OwnS w' B (.slice a n c) us)(hr:OwnRs w' B us)(he:us.map core=rs.map core)(hi:RowsIn w rs)(hs:shortR rs):RowsAt w' a n us∧RowsIn w' us∧shortR us∧n=us.length∧n≤c:=
 ⟨(ho.at' hr.rows).1,hr.rows,ZoD hr.rows he hi hs,(ho.at' hr.rows).2.1,(ho.at' hr.rows).2.2.1⟩
theorem Zvq(L:List (List Nat×ByteArray)):ZcB L≤L.length:=ZbR _ _
theorem StAt.mono{B':Nat}{v:Value}{ov:Bool}(h:StAt w g B k z m v rs ov)(hB:B'≤B):StAt w g B' k z m v rs ov:=
 ⟨h.blk,Nat.le_trans hB h.lo,h.own.mono hB,h.rows.mono hB,h.le,h.most,h.short⟩
end Go.Proofs.YtlhhinlghhjghaaGreatDoor
