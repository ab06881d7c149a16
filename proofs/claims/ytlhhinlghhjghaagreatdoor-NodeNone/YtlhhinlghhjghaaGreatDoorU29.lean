/-
  Contracts of span.cut, pick, chosen: for at most 100001 rows of at most 4000 words.
  Contracts of span.pick, chosen: for rows of at most 4000 words.
  Contracts of gauss.at, gauss.data: the rows at places, and the xor of their texts.
  Rows copied into a slice of the call's own by append: what its cells hold ('Fits'); slice expressions of rows; an append as a step of a region. No condition.
  What span.Express tells, on plain lists. Of no program but for the rows' memory; words below 2^64.
  What bucketlineref04.Express tells, on plain lists; 'copy(row, words)' into a new row.
  The walk of PeelTrue: for every input it tells true and writes nothing that was there.
-/
import Derived.Test.YtlhhinlghhjghaaGreatDoorU28
import Derived.Test.YtlhhinlghhjghaaGreatDoorU12
import Derived.Test.YtlhhinlghhjghaaGreatDoorU11
import Derived.Test.YtlhhinlghhjghaaGreatDoorU3
namespace Go.Proofs.YtlhhinlghhjghaaGreatDoor
open Go.RowKit Go.Sort
set_option linter.unusedVariables false
set_option linter.unusedSimpArgs false
set_option maxRecDepth 4000
set_option maxHeartbeats 8000000
variable {rs:List (List Nat)}{ss bs:List ByteArray}{kn:List Nat}{w:World}
theorem ZoP(w:World)(n:Nat)(hn:n≤1000000000):
  Own (w.alloc (.cells (madeCells #[.int .u64 0] n) 69)) w.heap.size (.slice (some ⟨w.heap.size,0,none⟩) n n) (Zba n):=by
 refine⟨Zbe n,⟨by simp[cellsU,Zba],.inr ⟨w.heap.size,n,madeCells #[.int .u64 0] n,by simp[Zba],Nat.le_refl _,heap_alloc_new w _,by simp[Zba],by unfold maxLen;omega,by simp[size_madeCells],?_⟩⟩⟩
 rw[toList_madeCells_one,List.take_of_length_le (by simp[Zba])]
 simp[cellsU,Zba]
theorem Zqp(P n c p s:Nat)(hp:s=0→p=0)(hc:p+s≤c)(w:World):
  (Instr.sliceAt 32 (.slice (some ⟨P,0,none⟩) n c) (some (.int .i64 (p:Int))) (some (.int .i64 ((p+s:Nat):Int))) (some (.int .i64 ((p+s:Nat):Int)))).run Tryz.prog w=.ok (.slice (some ⟨P,p,none⟩) s s) w:=by
 have hz:∀w:World,(sizeOf 69).run Tryz.prog w=.ok 1 w:=fun w=>by kernel_rfl
 rw[run_sliceAt_slice _ _ _ _ _ _ ZeI,run_slice_lhm _ _ _ _ _ ZeI _ _ _ _ _ _ (by omega) (by omega) (by omega) (by omega),Zim,hz]
 simp only[Result.andThen,sliced,Int.toNat_natCast,Nat.mul_one,Nat.add_sub_cancel_left]
 by_cases h0:s=0
 ·have:=hp h0
  subst h0
  subst this
  simp
 ·have e:¬p+s=p:=by omega
  rw[if_neg e]
  have ha:(⟨P,0,none⟩:Addr).add p=⟨P,p,none⟩:=by
   unfold Addr.add
   split
   ·rename_i h;simp_all
   ·simp
  simp[ha]
def ZbF(P s N k:Nat):List Value:=(List.range N).map fun i=>if i<k then .slice (some ⟨P,i*s,none⟩) s s else .slice none 0 0
theorem ZjM(P s N:Nat):ZbF P s N 0=List.replicate N (.slice none 0 0):=by
 apply List.ext_getElem
 ·simp[ZbF]
 ·intro i h1 h2;simp[ZbF]
theorem ZfZ(P s N k i:Nat)(hi:i<N):(ZbF P s N k)[i]? =some (if i<k then .slice (some ⟨P,i*s,none⟩) s s else .slice none 0 0):=by
 simp[ZbF,hi]
theorem ZkC(P s N k:Nat)(hk:k<N):(ZbF P s N k).set k (.slice (some ⟨P,k*s,none⟩) s s)=ZbF P s N (k+1):=by
 apply List.ext_getElem
 ·simp[ZbF]
 ·intro i h1 h2
  rw[List.getElem_set]
  by_cases e:k=i
  ·subst e;simp[ZbF]
  ·rw[if_neg e]
   simp only[ZbF,List.getElem_map,List.getElem_range]
   by_cases h3:i<k
   ·rw[if_pos h3,if_pos (by omega)]
   ·rw[if_neg h3,if_neg (by omega)]
theorem ZzW(N s:Nat)(w:World)(hN:N≤100001)(hs:s≤4000):
  Calls Tryz.prog 285 #[.int .i64 (N:Int),.int .i64 (s:Int)] w fun e w'=>e=.returned (.slice (some ⟨w.heap.size+1,0,none⟩) N N)∧CutAt w' w.heap.size w.heap.size (w.heap.size+1) s N (List.replicate N (Zba s))∧Below w.heap.size w w':=by
 have hM:N*s≤400004000:=Nat.le_trans (Nat.mul_le_mul hN hs) (by decide)
 obtain⟨M,hMe⟩:∃M,N*s=M:=⟨_,rfl⟩
 have hmul:wrap64 ((N:Int)*(s:Int))=(M:Int):=by
  have h1:((N:Int)*(s:Int))=((N*s:Nat):Int):=by simp
  rw[h1,hMe]
  unfold wrap64
  omega
 obtain⟨i0,hi0,hz0,hzs,hzb⟩:=info_parts ZeL
 have hmk:∀wx:World,(Instr.makeSlice 32 (.int .i64 (M:Int)) (.int .i64 (M:Int))).run Tryz.prog wx=.ok (.slice (some ⟨wx.heap.size,0,none⟩) M M) (wx.alloc (.cells (madeCells #[.int .u64 0] M) 69)):=fun wx=>by
  have:=run_make (P:=Tryz.prog) wx 32 69 i0 (.int .u64 0) Tryz.underlying32 hi0 hz0 .i64 .i64 (M:Int) (M:Int) (by omega) (Int.le_refl _) (by rw[hzb];omega) (by omega)
  rw[hzs]at this
  simpa [Value.cells]using this
 obtain⟨i1,hi1,hy0,hys,hyb⟩:=info_parts Ze1
 have hmk2:∀wx:World,(Instr.makeSlice 298 (.int .i64 (N:Int)) (.int .i64 (N:Int))).run Tryz.prog wx=.ok (.slice (some ⟨wx.heap.size,0,none⟩) N N) (wx.alloc (.cells (madeCells #[.slice none 0 0] N) 32)):=fun wx=>by
  have:=run_make (P:=Tryz.prog) wx 298 32 i1 (.slice none 0 0) Tryz.underlying298 hi1 hy0 .i64 .i64 (N:Int) (N:Int) (by omega) (Int.le_refl _) (by rw[hyb];omega) (by omega)
  rw[hys]at this
  simpa [Value.cells]using this
 clear hi0 hz0 hzs hzb hi1 hy0 hys hyb
 have hb1:Below w.heap.size w (w.alloc (.cells (madeCells #[.int .u64 0] M) 69)):=(Below.refl _ _).alloc (Nat.le_refl _) _
 have hP:=ZoP w M (by omega)
 have hsz:=Zab w (.cells (madeCells #[.int .u64 0] M) 69)
 have hR:=Zwg (w.alloc (.cells (madeCells #[.int .u64 0] M) 69)) N (by omega) _ rfl
 have hb2:Below (w.alloc (.cells (madeCells #[.int .u64 0] M) 69)).heap.size (w.alloc (.cells (madeCells #[.int .u64 0] M) 69)) ((w.alloc (.cells (madeCells #[.int .u64 0] M) 69)).alloc (.cells (madeCells #[.slice none 0 0] N) 32)):=(Below.refl _ _).alloc (Nat.le_refl _) _
 have HP:=hide (hP.below hb2)
 have hRt:=hR.top
 rw[hsz,List.length_replicate,←ZjM w.heap.size s N]at hRt
 have HR:=hide hRt
 have HB:=hide (below0 hb1 hb2)
 clear hb1 hb2 hP hR hRt
 have HX:Hid (M=N*s):=hMe.symm
 clear hMe hM
 go_enter Tryz.func285,Tryz.ntmps285
 go_wp2
 go_loopw [17] (fun i wr=> ∃k:Nat,k≤N∧i=.int .i64 k∧Hid (Own wr w.heap.size (.slice (some ⟨w.heap.size,0,none⟩) M M) (Zba M)∧wr.ownsRow (w.heap.size+1) 32 1 (.slice (some ⟨w.heap.size+1,0,none⟩) N N) N (ZbF w.heap.size s N k)∧Below w.heap.size w wr)) (fun i _=>N-(intOf i).toNat)
 case atStart=>exact⟨0,Nat.zero_le _,rfl,hide ⟨unhide HP,unhide HR,unhide HB⟩⟩
 case round=>
  obtain⟨k,hk,rfl,HS⟩:=hrel
  obtain⟨hP,hR,hB⟩:=unhide HS
  by_cases hlt:k<N
  ·obtain⟨p,hp⟩:∃p,k*s=p:=⟨_,rfl⟩
   obtain⟨q,hq⟩:∃q,p+s=q:=⟨_,rfl⟩
   have hle:k*s+s≤N*s:=by
    have:=Nat.mul_le_mul_right s hlt
    rw[Nat.succ_mul]at this
    exact this
   have hM2:N*s≤400004000:=Nat.le_trans (Nat.mul_le_mul hN hs) (by decide)
   have hm1:wrap64 ((k:Int)*(s:Int))=(p:Int):=by
    have h1:((k:Int)*(s:Int))=((k*s:Nat):Int):=by simp
    rw[h1,hp]
    unfold wrap64
    omega
   have hm2:wrap64 (((k:Int)+1)*(s:Int))=(q:Int):=by
    have h1:(((k:Int)+1)*(s:Int))=((k*s+s:Nat):Int):=by rw[Int.add_mul,Int.one_mul];simp
    rw[h1,hp,hq]
    unfold wrap64
    omega
   have hsl:=Zqp w.heap.size M M p s (fun e=>by rw[←hp,e,Nat.mul_zero]) (by have h:=unhide HX;rw[h,←hp];exact hle)
   rw[hq]at hsl
   have hcell:wr.cell? ⟨w.heap.size+1,k,none⟩=some (.slice none 0 0):=by
    rw[hR.cellAt k (by omega),ZfZ _ _ _ _ _ hlt,if_neg (by omega)]
   have hfz:=hR.frozenAt k
   have hs2:=(hR.stored k (.slice (some ⟨w.heap.size,p,none⟩) s s)).1
   rw[←hp,ZkC _ _ _ _ hlt,hp]at hs2
   have hP2:=hP.kept (Zad wr (w.heap.size+1) k (.slice (some ⟨w.heap.size,p,none⟩) s s)) (.inr (by show(some w.heap.size:Option Nat)≠some (w.heap.size+1);simp))
   have HN:=hide (And.intro hP2 (And.intro hs2 (hB.setCell (p:=⟨w.heap.size+1,k,none⟩) (Nat.le_succ _) (.slice (some ⟨w.heap.size,p,none⟩) s s))))
   clear hP hR hB hP2 hs2 HS HP HR HB hle hM2 hp hq HX
   generalize w.heap.size+1=R at*
   go_wp2
   go_roundw
   case rel=>exact⟨k+1,by omega,by go_num,HN⟩
   case measure=>simp[intOf];omega
  ·obtain rfl:k=N:=by omega
   clear HP HR HB
   go_wp2
   go_ret
   refine⟨rfl,⟨Zba M,⟨?_,by simp,fun i hi=>?_⟩,?_,fun i hi=>?_,by omega⟩,hB⟩
   ·rw[Zbk];exact unhide HX
   ·have hg:(List.replicate k (Zba s)).getD i []=Zba s:=by rw[List.getD_eq_getElem?_getD,List.getElem?_replicate,if_pos hi];rfl
    rw[hg]
    refine⟨Zbk s,fun j hj=>?_⟩
    have h1:=ZjF hi hj
    have h2:=unhide HX
    unfold Zba
    rw[List.getD_eq_getElem?_getD,List.getD_eq_getElem?_getD,List.getElem?_replicate,List.getElem?_replicate,if_pos (by omega),if_pos hj]
   ·rw[Zbk];exact hP
   ·rw[hR.cellAt i (by omega),ZfZ _ _ _ _ _ hi,if_pos hi]
theorem IntsAt.kept{w':World}{a:Option Addr}{n:Nat}{xs:List Nat}{row:Option Nat}(h:IntsAt w a n xs)(hg:w.grownBy w' row)(hd:n=0∨∀ad,a=some ad→some ad.block≠row):IntsAt w' a n xs:=by
 refine⟨h.1,?_⟩
 rcases h.2 with h0|⟨b,off,rfl,hc⟩
 ·exact .inl h0
 ·rcases hd with h0|hd
  ·exact .inl h0
  ·exact .inr ⟨b,off,rfl,fun i hi=>hg.cell (hc i hi) (hd ⟨b,off,none⟩ rfl)⟩
theorem Zwy(rs:List (List Nat))(i:Nat):rs.set i (rs.getD i [])=rs:=by
 apply List.ext_getElem (by simp)
 intro j h1 h2
 rw[List.getElem_set]
 split
 ·rename_i e;subst e;simp[List.getD_eq_getElem?_getD,List.getElem?_eq_getElem h2]
 ·rfl
theorem ZfX{B P R s N i0 k:Nat}{r:List Nat}(h:CutAt w B P R s N (rs.set i0 r))(hi:i0<N)(hrl:rs.length=N)(hk:k<64*s):
  ∃x:Nat,w.cell? ⟨P,i0*s+k/64,none⟩=some (.int .u64 (x:Int))∧x<18446744073709551616∧w.frozen? ⟨P,i0*s+k/64,none⟩=false∧
   CutAt (w.setCell ⟨P,i0*s+k/64,none⟩ (.int .u64 ((setW x (k%64) true:Nat):Int))) B P R s N (rs.set i0 (setB r k true)):=by
 have hg:(rs.set i0 r).getD i0 []=r:=by rw[Zhs rs i0 i0 r (by omega),if_pos rfl]
 obtain⟨h1,h2,h3⟩:=h.row hi
 rw[hg]at h1
 have hq:k/64<s:=by omega
 obtain⟨b,off,e,hc⟩:=h1.at hq
 simp only[Option.some.injEq,Addr.mk.injEq,and_true]at e
 obtain⟨rfl,rfl⟩:=e
 refine⟨r.getD (k/64) 0,hc _ hq,h1.2.1.get _,h3 _ hq,?_⟩
 have:=h.stored hi hq (setW (r.getD (k/64) 0) (k%64) true) (ZjI _ _ _ (h1.2.1.get _) (by omega))
 rw[hg,List.set_set]at this
 exact this
theorem Zox(B P R s N i0:Nat)(rs:List (List Nat))(a':Option Addr)(m c':Nat)(xs:List Nat)(af:Option Addr)(nf cf:Nat)(fs:List Nat)(w:World)(h:CutAt w B P R s N rs)(hi:i0<N)(h':RowAt w a' m xs)
  (hl':m=0∨∀ad,a'=some ad→some ad.block≠some P) (hF:IntsAt w af nf fs) (hlF:nf=0∨∀ad,af=some ad→some ad.block≠some P) (hfb:∀i,fs.getD i 0≤1000000000) (hn:nf≤64*s) (hs:s≤4000) (hm:m≤1048576):
  Calls Tryz.prog 286 #[.slice (some ⟨P,i0*s,none⟩) s s,.slice a' m c',.slice af nf cf] w fun e w'=>e=.returned (.tuple #[])∧CutAt w' B P R s N (rs.set i0 (ZbK (rs.getD i0 []) xs fs nf))∧w.grownBy w' (some P):=by
 have hrl:=h.len.1
 have H0:Hid (CutAt w B P R s N (rs.set i0 (ZbK (rs.getD i0 []) xs fs 0))∧w.grownBy w (some P)):=hide ⟨by show CutAt w B P R s N (rs.set i0 (rs.getD i0 []));rw[Zwy];exact h,Zdw _ _⟩
 have HPK:Hid (∀k,ZbK (rs.getD i0 []) xs fs (k+1)=if getB xs (fs.getD k 0)=true then setB (ZbK (rs.getD i0 []) xs fs k) k true else ZbK (rs.getD i0 []) xs fs k):=fun _=>rfl
 clear h
 generalize rs.getD i0 []=r0 at*
 obtain⟨po,hpo⟩:∃po,i0*s=po:=⟨_,rfl⟩
 have HPO:=hide hpo
 rw[hpo]
 clear hpo
 go_enter Tryz.func286,Tryz.ntmps286
 go_wp2
 go_loopw [10] (fun i wr=> ∃k:Nat,k≤nf∧i=.int .i64 k∧Hid (CutAt wr B P R s N (rs.set i0 (ZbK r0 xs fs k))∧w.grownBy wr (some P))) (fun i _=>nf-(intOf i).toNat)
 case atStart=>exact⟨0,Nat.zero_le _,rfl,H0⟩
 case round=>
  obtain⟨k,hk,rfl,HS⟩:=hrel
  obtain⟨hC,hG⟩:=unhide HS
  by_cases hlt:k<nf
  ·obtain⟨b,off,rfl,hc⟩:=(hF.kept hG hlF).at hlt
   have hcell:=hc k hlt
   have hr:=h'.kept hG hl'
   have hGe:=ZjE a' m c' xs ((fs.getD k 0:Nat):Int) wr hr hm (by have:=hfb k;omega)
   rw[Zgp]at hGe
   have hpk:=unhide HPK k
   cases hgb:getB xs (fs.getD k 0)with
   |false=>
    rw[hgb]at hGe hpk
    rw[if_neg (by decide)]at hpk
    rw[←hpk]at hC
    have HGe:=hide hGe
    have HC:=hide hC
    have HG:=hide hG
    clear hC hG hGe hpk hc hr HS H0 hF h' hgb HPK
    generalize fs.getD k 0=f at*
    go_wp2_with fail
    refine(unhide HGe).mono ?_
    rintro e w1 ⟨rfl,d,hw⟩
    have hb:Below wr.heap.size wr w1:=by rw[hw];exact below_drewN (Below.refl _ _) d
    have HN:=hide (And.intro ((unhide HC).below hb) (gb_trans (unhide HG) (Zai hb (some P)) (.inl rfl)))
    clear hw hb HC HG HGe
    go_wp2
    go_roundw
    case rel=>exact⟨k+1,by omega,by go_num,HN⟩
    case measure=>simp[intOf];omega
   |true=>
    rw[hgb]at hGe hpk
    rw[if_pos rfl]at hpk
    have HST:=hide (fun(w1:World) (hb:Below wr.heap.size wr w1)=>ZfX (hC.below hb) hi hrl (show k<64*s by omega))
    have HGe:=hide hGe
    have HG:=hide hG
    have HPK2:=hide hpk
    clear hC hG hGe hpk hc hr HS H0 hF h' hgb HPK
    generalize fs.getD k 0=f at*
    go_wp2_with fail
    refine(unhide HGe).mono ?_
    rintro e w1 ⟨rfl,d,hw⟩
    have hb:Below wr.heap.size wr w1:=by rw[hw];exact below_drewN (Below.refl _ _) d
    obtain⟨x,hx1,hx2,hx3,hx4⟩:=unhide HST w1 hb
    rw[unhide HPO]at hx1 hx3 hx4
    have HX:=hide (Zi2 P po s s k x w1 (by omega) (by omega) hx1 hx2 hx3)
    rw[←unhide HPK2]at hx4
    have HN:=hide (And.intro hx4 (gb_trans (gb_trans (unhide HG) (Zai hb (some P)) (.inl rfl)) (Zad w1 P (po+k/64) (.int .u64 ((setW x (k%64) true:Nat):Int))) (.inl rfl)))
    clear hw hb HG HGe HST hx1 hx3 hx4 HPK2
    go_wp2_with fail
    refine(unhide HX).mono ?_
    rintro e w2 ⟨rfl,hw⟩
    rw[←hw]at HN
    clear hw HX
    go_wp2
    go_roundw
    case rel=>exact⟨k+1,by omega,by go_num,HN⟩
    case measure=>simp[intOf];omega
  ·obtain rfl:k=nf:=by omega
   clear h' hF H0
   go_wp2
   go_end0
   exact⟨rfl,hC,hG⟩
theorem Zpb(a:Option Addr)(n c:Nat)(ps:List Nat)(a':Option Addr)(m c':Nat)(xs:List Nat)(w:World)(h:IntsAt w a n ps)(h':RowAt w a' m xs)(hn:n≤100000)(hm:m≤1048576):
  Calls Tryz.prog 288 #[.slice a n c,.slice a' m c'] w fun e w'=> ∃v,e=.returned v∧OwnI w' w.heap.size v (chosenL ps (fun i=>getB xs (n+i)) n)∧Below w.heap.size w w':=by
 have HCH:Hid (∀k,chosenL ps (fun i=>getB xs (n+i)) (k+1)=if getB xs (n+k)=true then chosenL ps (fun i=>getB xs (n+i)) k++[ps.getD k 0]else chosenL ps (fun i=>getB xs (n+i)) k):=fun _=>rfl
 have HLE:=hide (Zfy ps (fun i=>getB xs (n+i)))
 have H0:Hid (OwnI w w.heap.size (.slice none 0 0) (chosenL ps (fun i=>getB xs (n+i)) 0)):=OwnI.nil _ _
 generalize hch:chosenL ps (fun i=>getB xs (n+i))=CH at*
 clear hch
 go_enter Tryz.func288,Tryz.ntmps288
 go_wp2
 go_loopw [5,10] (fun v i wr=> ∃k:Nat,k≤n∧i=.int .i64 k∧∃a1 l1 c1,v=.slice a1 l1 c1∧Hid (OwnI wr w.heap.size (.slice a1 l1 c1) (CH k))∧Hid (Below w.heap.size w wr)) (fun _ i _=>n-(intOf i).toNat)
 case atStart=>exact⟨0,Nat.zero_le _,rfl,none,0,0,rfl,H0,hide (Below.refl _ _)⟩
 case round=>
  obtain⟨k,hk,rfl,a1,l1,c1,rfl,HI,HB⟩:=hrel
  have hB:=unhide HB
  by_cases hlt:k<n
  ·obtain⟨b,off,rfl,hc⟩:=(h.below hB).at hlt
   have hcell:=hc k hlt
   have hGe:=ZjE a' m c' xs ((n:Int)+(k:Int)) wr (h'.below hB) hm (by omega)
   rw[show(n:Int)+(k:Int)=((n+k:Nat):Int) by simp,Zgp,show((n+k:Nat):Int)=(n:Int)+(k:Int) by simp]at hGe
   have hch:=unhide HCH k
   have hle:=unhide HLE k
   cases hgb:getB xs (n+k)with
   |false=>
    rw[hgb]at hGe hch
    rw[if_neg (by decide)]at hch
    have HI2:=HI
    rw[←hch]at HI2
    have HGe:=hide hGe
    clear hGe hch hc HI h h' hgb HCH HLE H0
    generalize ps.getD k 0=f at*
    go_wp2_with fail
    refine(unhide HGe).mono ?_
    rintro e w1 ⟨rfl,d,hw⟩
    have hb:Below wr.heap.size wr w1:=by rw[hw];exact below_drewN (Below.refl _ _) d
    have HI3:=hide ((unhide HI2).below hb)
    have HB3:=hide (below0 hB hb)
    clear hw hb HI2 HGe hB HB
    go_wp2
    go_roundw
    case rel=>exact⟨k+1,by omega,by go_num,a1,l1,c1,rfl,HI3,HB3⟩
    case measure=>simp[intOf];omega
   |true=>
    rw[hgb]at hGe hch
    rw[if_pos rfl]at hch
    have HHC:=hide hch
    have HGe:=hide hGe
    clear hGe hch hc h h' hgb HCH HLE H0
    generalize ps.getD k 0=f at*
    go_wp2_with fail
    refine(unhide HGe).mono ?_
    rintro e w1 ⟨rfl,d,hw⟩
    have hb:Below wr.heap.size wr w1:=by rw[hw];exact below_drewN (Below.refl _ _) d
    have HI3:=hide ((unhide HI).below hb)
    have HB3:=hide (below0 hB hb)
    clear hw hb HI HGe hB HB
    have hl3:(CH k).length≤1048576:=by omega
    go_wp2_with (first|(at_builtin;refine Zgc rfl _ _ rfl w.heap.size (.slice a1 l1 c1) (CH k) f rfl rfl (unhide HI3) (unhide HB3).size hl3 ?_;intro s4 w4 hI4 hg4;have HB4:=hide ((unhide HB3).trans ((unhide HI3).grown hg4 (unhide HB3).size));rw[←unhide HHC]at hI4;obtain⟨a4,c4,rfl,_⟩:=hI4.ints;have HI4:=hide hI4;clear hg4 hI4 HI3 HB3 HHC))
    go_roundw
    case rel=>exact⟨k+1,by omega,by go_num,a4,_,c4,rfl,HI4,HB4⟩
    case measure=>simp[intOf];omega
  ·obtain rfl:k=n:=by omega
   clear h h' H0 HCH HLE
   go_wp2
   go_ret
   exact⟨_,rfl,unhide HI,unhide HB⟩
def atR(ts:List RV)(ps:List Nat):List RV:=ps.map fun i=>ts.getD i .dflt
theorem Zdb(ts:List RV)(ps:List Nat):(atR ts ps).length=ps.length:=by simp[atR]
theorem Zsn(ts:List RV)(ps:List Nat)(k:Nat)(hk:k<ps.length):(atR ts ps).getD k .dflt=ts.getD (ps.getD k 0) .dflt:=by
 unfold atR
 rw[List.getD_eq_getElem?_getD,List.getElem?_map,List.getElem?_eq_getElem hk,List.getD_eq_getElem?_getD (l:=ps),List.getElem?_eq_getElem hk]
 rfl
theorem RowsIn.atR{ts:List RV}{ps:List Nat}(h:RowsIn w ts)(hp:∀i∈ps,i<ts.length):RowsIn w (atR ts ps):=fun r hr=>by
 obtain⟨i,hi,rfl⟩:=List.mem_map.1 hr
 exact h.get (hp i hi)
theorem Zx7(a:Option Addr)(n c:Nat)(ts:List RV)(ap:Option Addr)(np cp:Nat)(ps:List Nat)(w:World)(h:RowsAt w a n ts)(hp:IntsAt w ap np ps)(hl:∀i∈ps,i<n)(hn:n≤1048576)(hnp:np≤1048576):
  Calls Tryz.prog 282 #[.slice a n c,.slice ap np cp] w fun e w'=> ∃v,e=.returned v∧OwnS w' w.heap.size v (atR ts ps)∧Below w.heap.size w w':=by
 obtain rfl:=hp.1
 have Hh:=hide h
 have HP:=hide hp
 have HL:=hide hl
 have hmk:=Zoo ps.length hnp
 have HM:=hide (Zm1 w ps.length hnp (filR (atR ts ps) 0) (by rw[Zg1,Zdb]))
 have HBM:Hid (Below w.heap.size w (w.alloc (.cells (madeCells #[.slice none 0 0,.string ⟨#[]⟩] (ps.length*2)) 57))):=hide ((Below.refl _ _).alloc (Nat.le_refl _) _)
 clear h hp hl
 go_enter Tryz.func282,Tryz.ntmps282
 go_wp2
 go_loopw [13] (fun i wr=> ∃k:Nat,k≤ps.length∧i=.int .i64 k∧Hid (OwnS wr w.heap.size (.slice (some ⟨w.heap.size,0,none⟩) ps.length ps.length) (filR (atR ts ps) k))∧Hid (Below w.heap.size w wr)) (fun i _=>ps.length-(intOf i).toNat)
 case atStart=>exact⟨0,Nat.zero_le _,rfl,HM,HBM⟩
 case round=>
  obtain⟨k,hk,rfl,HI,HB⟩:=hrel
  clear HM HBM
  by_cases hlt:k<ps.length
  ·obtain⟨bp,offp,rfl,hclp⟩:=((unhide HP).below (unhide HB)).at hlt
   have hcp:=hclp k hlt
   have hpl:ps.getD k 0<n:=unhide HL _ (by rw[List.getD_eq_getElem?_getD,List.getElem?_eq_getElem hlt];exact List.getElem_mem hlt)
   obtain⟨b,off,rfl,hcl⟩:=((unhide Hh).below (unhide HB)).at hpl
   obtain⟨hc0,hc1⟩:=hcl _ hpl
   have hlt':(k:Int)<(ps.length:Int):=by omega
   have hS:=Zhj (atR ts ps) k (by rw[Zdb];exact hlt)
   rw[Zsn ts ps k hlt]at hS
   generalize ps.getD k 0=p at*
   have hpl':(p:Int)<(n:Int):=by omega
   generalize ts.getD p .dflt=r at*
   have hI:=unhide HI
   have hfl:(filR (atR ts ps) k).length=ps.length:=by rw[Zev _ _ (by rw[Zdb];exact hk),Zdb]
   have hcg:=Zbv (filR (atR ts ps) k) k (by omega)
   have hcell0:=hI.cellAt hcg.1
   have hcell1:=hI.cellAt hcg.2
   have hI':wr.ownsRow w.heap.size 57 2 (.slice (some ⟨w.heap.size,0,none⟩) ps.length ps.length) ps.length (cellsR (filR (atR ts ps) k)):=by
    have:wr.ownsRow w.heap.size 57 2 (.slice (some ⟨w.heap.size,0,none⟩) ps.length ps.length) (filR (atR ts ps) k).length (cellsR (filR (atR ts ps) k)):=hI
    rwa[hfl]at this
   have hfz0:=hI'.frozenAt (k*2)
   have hfz1:=hI'.frozenAt (k*2+1)
   have hs2:=hI.stored k r
   rw[hS]at hs2
   have HS:=hide hs2
   have HB2:=hide (((unhide HB).setCell (p:=⟨w.heap.size,k*2,none⟩) (Nat.le_refl _) (.slice r.a r.n r.c)).setCell (p:=⟨w.heap.size,k*2+1,none⟩) (Nat.le_refl _) (.string r.s))
   clear hcl hclp hI hI' hs2 hS hcg hfl HI HB
   generalize (filR (atR ts ps) k).getD k .dflt=z at*
   go_wp2
   go_roundw
   case rel=>exact⟨k+1,by omega,by go_num,HS,HB2⟩
   case measure=>simp[intOf];omega
  ·obtain rfl:k=ps.length:=by omega
   rw[show ps.length=(atR ts ps).length from(Zdb ts ps).symm,Zi9,Zdb]at HI
   go_wp2
   go_ret
   exact⟨_,rfl,unhide HI,unhide HB⟩
theorem ZjW:Tryz.prog.underlying 298=some (.slice (Tryz.prog.elem 298)):=by kernel_rfl
theorem Zo3:Tryz.prog.elem 298=32:=by kernel_rfl
theorem ZrK(b off n c q:Nat)(hc:q≤c)(w:World):
  (Instr.sliceAt 298 (.slice (some ⟨b,off,none⟩) n c) none (some (.int .i64 (q:Int))) none).run Tryz.prog w=.ok (.slice (some ⟨b,off,none⟩) q c) w:=by
 rw[run_sliceAt_slice _ _ _ _ _ _ ZjW,run_slice_h _ _ _ _ _ ZjW _ _ (by omega) (by omega),Zo3,Zrw]
 simp[Result.andThen,sliced,Addr.add]
theorem IntsAt.lt{a:Option Addr}{n:Nat}{xs:List Nat}(h:IntsAt w a n xs):n=0∨∀ad,a=some ad→ad.block<w.heap.size:=by
 rcases h.2 with h0|⟨b,off,rfl,hc⟩
 ·exact .inl h0
 ·by_cases h0:n=0
  ·exact .inl h0
  ·right
   intro ad e
   simp only[Option.some.injEq]at e
   subst e
   exact World.block_lt_of_cell? w _ (hc 0 (by omega))
def sizeL(n:Nat):Nat:=(2*n+63)/64
def Zep(rs:List (List Nat))(ps fs:List Nat)(s i:Nat):List Nat:=setB (ZbK (Zba s) (rs.getD (ps.getD i 0) []) fs ps.length) (ps.length+i) true
def ZaA(rs:List (List Nat))(ps fs:List Nat)(s k:Nat):List (List Nat):=(List.range (ps.length+1)).map fun i=>if i<k then Zep rs ps fs s i else Zba s
theorem Zg9(rs:List (List Nat))(ps fs:List Nat)(s k:Nat):(ZaA rs ps fs s k).length=ps.length+1:=by simp[ZaA]
theorem ZgL(rs:List (List Nat))(ps fs:List Nat)(s k i:Nat)(hi:i<ps.length+1):(ZaA rs ps fs s k).getD i []=if i<k then Zep rs ps fs s i else Zba s:=by
 simp[ZaA,List.getD_eq_getElem?_getD,hi]
theorem Zpx(rs:List (List Nat))(ps fs:List Nat)(s:Nat):ZaA rs ps fs s 0=List.replicate (ps.length+1) (Zba s):=by
 apply List.ext_getElem
 ·simp[ZaA]
 ·intro i h1 h2;simp[ZaA]
theorem ZtY(rs:List (List Nat))(ps fs:List Nat)(s k:Nat)(hk:k<ps.length+1):(ZaA rs ps fs s k).set k (Zep rs ps fs s k)=ZaA rs ps fs s (k+1):=by
 apply List.ext_getElem
 ·simp[ZaA]
 ·intro i h1 h2
  rw[List.getElem_set]
  by_cases e:k=i
  ·subst e;simp[ZaA]
  ·rw[if_neg e]
   simp only[ZaA,List.getElem_map,List.getElem_range]
   by_cases h3:i<k
   ·rw[if_pos h3,if_pos (by omega)]
   ·rw[if_neg h3,if_neg (by omega)]
theorem ZeX(rs:List (List Nat))(ps fs:List Nat)(s i:Nat):smalls (Zep rs ps fs s i):=ZfW (ZbP (Zbe s) _ _ _) _ _
theorem Zhn(rs:List (List Nat))(ps fs:List Nat)(s i:Nat):(Zep rs ps fs s i).length=s:=by unfold Zep;rw[Zbh,ZcF,Zbk]
theorem Ztt(rs:List (List Nat))(ps fs:List Nat)(s k j:Nat)(q:List Nat)(hq:smalls q)(hql:q.length=s)(M:Nat)(hs:s≤M):Fit M (((ZaA rs ps fs s k).set j q).take k):=by
 intro x hx
 rcases List.mem_or_eq_of_mem_set (List.mem_of_mem_take hx)with hx|rfl
 ·obtain⟨i,_,rfl⟩:=List.mem_map.1 hx
  split
  ·exact⟨ZeX _ _ _ _ _,by rw[Zhn];exact hs⟩
  ·exact⟨Zbe s,by rw[Zbk];exact hs⟩
 ·exact⟨hq,by omega⟩
theorem Zh2(rs:List (List Nat))(ps fs:List Nat)(s:Nat)(q:List Nat):((ZaA rs ps fs s ps.length).set ps.length q).take ps.length=(ZaA rs ps fs s ps.length).take ps.length:=by
 apply List.ext_getElem
 ·simp
 ·intro i h1 h2
  have hi:i<ps.length:=by
   rw[List.length_take]at h2
   omega
  rw[List.getElem_take,List.getElem_take,List.getElem_set,if_neg (by omega)]
def exprL(rs:List (List Nat))(xs:List Nat):List Nat:=
 chosenL (keepL rs rs.length) (fun i=>getB (reduceL (broughtL ((ZaA rs (keepL rs rs.length) (ZaT (broughtL rs)) (sizeL (keepL rs rs.length).length) (keepL rs rs.length).length).take (keepL rs rs.length).length))
  (ZbK (Zba (sizeL (keepL rs rs.length).length)) xs (ZaT (broughtL rs)) (keepL rs rs.length).length)) ((keepL rs rs.length).length+i)) (keepL rs rs.length).length
theorem Zty(n:Nat):2*n≤64*sizeL n:=by unfold sizeL;omega
theorem ZtO(n:Nat)(h:n≤100000):sizeL n≤4000:=by unfold sizeL;omega
theorem ZlJ{M:Nat}(h:Fit M rs)(i:Nat)(hi:i<(broughtL rs).length):0≤firstI ((broughtL rs).getD i []):=by
 have h1:=(ZaB h).getD i
 have h2:val ((broughtL rs).getD i [])≠0:=by
  refine(Zcy h).1 _ (List.mem_map.2 ⟨_,?_,rfl⟩)
  simp[List.getD_eq_getElem?_getD,List.getElem?_eq_getElem hi]
 rw[Zbz h1.1,if_neg h2]
 omega
theorem ZoY{M:Nat}(h:Fit M rs):ZaT (broughtL rs)=(broughtL rs).map fun b=>Ech.low (val b):=by
 unfold ZaT
 apply List.map_congr_left
 intro b hb
 have h1:=(ZaB h) b hb
 have h2:val b≠0:=(Zcy h).1 _ (List.mem_map.2 ⟨b,hb,rfl⟩)
 rw[Zbz h1.1,if_neg h2]
 rfl
theorem ZjV(h:Fit 1048576 rs)(i:Nat):(ZaT (broughtL rs)).getD i 0≤1000000000:=by
 by_cases hi:i<(broughtL rs).length
 ·rw[ZeG _ i hi]
  have h1:=(ZaB h).getD i
  have:=ZkU h1.1
  omega
 ·rw[ZaS (by rw[Zbj];omega)]
  omega
theorem Zjk(rs:List (List Nat)):(broughtL rs).length=(keepL rs rs.length).length:=by rw[ZdD rs _ (Nat.le_refl _),List.take_length]
theorem ZeE(hf:Fit 1048576 rs)(hn:rs.length≤100000){xs:List Nat}(hx:smalls xs){c:Nat}(hc:Choice rs xs c):exprL rs xs=chosenL (keepL rs rs.length) (fun i=>c.testBit i) (keepL rs rs.length).length:=by
 have hnl:=ZbR rs rs.length
 have hs1:=Zty (keepL rs rs.length).length
 have hs2:=ZtO (keepL rs rs.length).length (by omega)
 unfold exprL
 refine Zf8 _ _ fun i hi=>?_
 refine Zkq hf (M':=4000) (fs:=ZaT (broughtL rs)) (ZoY hf) ?_ ?_ ?_ (ZbP (Zbe _) _ _ _) (Zwj hx (by omega)) (by rw[ZcF,Zbk];exact hs2) hc i
 ·rw[List.length_take,Zg9];omega
 ·rw[←Zh2 _ _ _ _ []]
  intro x hx
  have hx':=List.mem_of_mem_take hx
  obtain⟨j,hj,rfl⟩:=List.getElem_of_mem hx
  rw[List.length_take,List.length_set,Zg9]at hj
  rw[List.getElem_take,List.getElem_set,if_neg (by omega)]
  simp only[ZaA,List.getElem_map,List.getElem_range]
  split
  ·exact⟨ZeX _ _ _ _ _,by rw[Zhn];exact hs2⟩
  ·exact⟨Zbe _,by rw[Zbk];exact hs2⟩
 ·intro j hj
  rw[List.getD_eq_getElem?_getD,List.getElem?_take_of_lt hj,←List.getD_eq_getElem?_getD,ZgL _ _ _ _ _ _ (by omega),if_pos hj]
  exact ZwX (hf.getD _).1 (by omega) (by omega)
def exL(rs:List (List Nat))(xs:List Nat):List Nat:=if firstI (reduceL (broughtL rs) xs)<0 then exprL rs xs else []
def ofN(f:Nat→Nat)(vs:List Nat):Nat→Nat
 |0=>0
 |n+1=>if getB vs n then ofN f vs n^^^f n else ofN f vs n
theorem Ze3(ss:List ByteArray)(vs:List Nat)(i:Nat):∀n,(ofL ss vs n).getD i 0=ofN (fun b=>(tx (ss.getD b ByteArray.empty)).getD i 0) vs n
 |0=>by simp[ofL,ofN]
 |n+1=>by
  unfold ofL ofN
  split
  ·rw[Zau,Ze3 ss vs i n]
  ·exact Ze3 ss vs i n
theorem Zlo{f g:Nat→Nat}{xs kn:List Nat}(h1:∀b,getB kn b=true→g b=f b)(h2:∀b,getB kn b=false→g b=0):∀n,ofN f xs n^^^ofN g xs n=ofN f (dropL xs kn) n
 |0=>by simp[ofN]
 |n+1=>by
  have ih:=Zlo (xs:=xs) h1 h2 n
  unfold ofN
  rw[ZbC]
  cases hx:getB xs n
  ·simpa using ih
  ·cases hk:getB kn n
   ·rw[h2 n hk]
    simp only[Bool.not_false,Bool.and_true,if_true,Nat.xor_zero]
    rw[←ih,Nat.xor_assoc,Nat.xor_comm (f n),←Nat.xor_assoc]
   ·rw[h1 n hk]
    simp only[Bool.not_true,Bool.and_false,if_true,Bool.false_eq_true,if_false]
    rw[←ih,Nat.xor_assoc,Nat.xor_comm (f n),Nat.xor_assoc,Nat.xor_self,Nat.xor_zero]
theorem ZiX{f:Nat→Nat}{vs:List Nat}{b:Nat}(h:∀i,getB vs i=decide (i=b)):∀n,ofN f vs n=if b<n then f b else 0
 |0=>by simp[ofN]
 |n+1=>by
  unfold ofN
  rw[ZiX h n,h n]
  by_cases e:n=b
  ·subst e
   rw[decide_eq_true rfl,if_pos rfl,if_neg (by omega),if_pos (by omega)]
   exact Nat.zero_xor _
  ·rw[decide_eq_false e,if_neg (by simp)]
   by_cases h1:b<n
   ·rw[if_pos h1,if_pos (by omega)]
   ·rw[if_neg h1,if_neg (by omega)]
theorem ZbX{vs:List Nat}{s:ByteArray}:ZbZ ss vs s=true↔(∀i,ofN (fun b=>(tx (ss.getD b ByteArray.empty)).getD i 0) vs ss.length=(tx s).getD i 0)∧∀i,ss.length≤i→getB vs i=false:=by
 rw[Zp0,ZuC]
 refine and_congr_left fun _=>?_
 constructor
 ·intro h i
  have:=h i
  rw[Zjc,Zau,Zdl (ZcA _ _ _),Ze3]at this
  exact Ech.eq_of_xor this
 ·intro h i
  rw[Zjc,Zau,Zdl (ZcA _ _ _),Ze3,h i,Nat.xor_self]
def ZAB(ss:List ByteArray)(kn:List Nat)(bs:List ByteArray):Prop:=∀b,getB kn b=true→∀i,(tx (bs.getD b ByteArray.empty)).getD i 0=(tx (ss.getD b ByteArray.empty)).getD i 0
theorem ZnF{j:Nat}(hK:Kn (ss.length:Int) j kn bs)(hT:ZAB ss kn bs){xs:List Nat}{s:ByteArray}(h:ZbZ ss xs s=true)(i:Nat):
  (tx (txtL bs xs s)).getD i 0=ofN (fun b=>(tx (ss.getD b ByteArray.empty)).getD i 0) (dropL xs kn) ss.length:=by
 unfold txtL
 have hl:=hK.lenb
 rw[Int.toNat_natCast]at hl
 rw[Zjc,Zau,Zdl (ZcA _ _ _),Ze3,hl,←(ZbX.1 h).1 i]
 refine Zlo (fun b hb=>hT b hb i) (fun b hb=>?_) _
 show(tx (bs.getD b ByteArray.empty)).getD i 0=0
 rw[hK.none b hb]
 rfl
theorem Run.truth{ss:List ByteArray}{rs:List RV}(hz:0<sizeOfK (ss.length:Int))(hg:Good rs)(hh:∀r∈rs,ZbZ ss r.xs r.s=true):∀{j:Nat} {kn:List Nat} {bs:List ByteArray},Run (ss.length:Int) rs j kn bs→ZAB ss kn bs
 |0,kn,bs,⟨h1,h2⟩=>fun b hb=>by rw[h1,ZcS]at hb;cases hb
 |j+1,kn,bs,⟨kn0,bs0,r,h1,h2,h3,h4⟩=>by
  have hK:=Run.known hz hg h1
  have hT:=Run.truth hz hg hh h1
  have hm:=List.mem_of_find?_eq_some h2
  obtain⟨hv,hbits,hk0,hx0,hbk,hfi⟩:=ZdH (hg r hm).1 (List.find?_some h2)
  have hroom:=ZaC hz
  rw[Int.toNat_natCast]at hbk hroom
  subst h3 h4
  intro b hb i
  rw[ZcH _ _ _ _ (by rw[hK.len];omega)]at hb
  rw[Zcm]
  by_cases e:b=blkOf kn0 r
  ·rw[if_pos ⟨e,by rw[hK.lenb,Int.toNat_natCast];exact hbk⟩,ZnF hK hT (hh r hm),ZiX hbits,if_pos hbk,e]
  ·rw[if_neg e]at hb
   rw[if_neg (fun h=>e h.1)]
   exact hT b hb i
theorem Ztw{rs:List RV}(hP:PeelP (ss.length:Int) rs kn bs)(hg:Good rs)(hh:∀r∈rs,ZbZ ss r.xs r.s=true):∀x∈toldTo (ss.length:Int) kn bs (ss.length:Int).toNat,ZbZ ss x.1 x.2=true:=by
 intro x hx
 by_cases hz:sizeOfK (ss.length:Int)=0
 ·obtain⟨p1,p2,_⟩:=ZbN (rs:=rs) hz
  obtain⟨rfl,rfl⟩:=hP.uniq p1
  rw[p2]at hx;cases hx
 ·obtain⟨⟨j,hj⟩,_⟩:=hP
  have hK:=Run.known (by omega) hg hj
  have hT:=Run.truth (by omega) hg hh hj
  obtain⟨b,hb,hgb,rfl⟩:=ZcC hK hx
  rw[Int.toNat_natCast]at hb
  refine ZbX.2 ⟨fun i=>?_,fun i hi=>?_⟩
  ·rw[ZiX (Zde hK.size (by omega)),if_pos hb]
   exact(hT b hgb i).symm
  ·rw[Zde hK.size (by omega),decide_eq_false (by omega)]
theorem ZtH{rs:List RV}(hP:PeelP (ss.length:Int) rs kn bs)(hg:Good rs)(hh:∀r∈rs,ZbZ ss r.xs r.s=true):∀x∈restL (ss.length:Int) rs kn bs,ZbZ ss x.1 x.2=true:=by
 intro x hx
 by_cases hz:sizeOfK (ss.length:Int)=0
 ·obtain⟨p1,_,p3⟩:=ZbN (rs:=rs) hz
  obtain⟨rfl,rfl⟩:=hP.uniq p1
  rw[p3]at hx;cases hx
 ·obtain⟨⟨j,hj⟩,_⟩:=hP
  have hK:=Run.known (by omega) hg hj
  have hT:=Run.truth (by omega) hg hh hj
  unfold restL at hx
  rw[List.mem_map]at hx
  obtain⟨r,hr,rfl⟩:=hx
  have hm:=(List.mem_filter.1 hr).1
  refine ZbX.2 ⟨fun i=>(ZnF hK hT (hh r hm) i).symm,fun i hi=>?_⟩
  show getB (dropL r.xs kn) i=false
  rw[ZbC,(ZbX.1 (hh r hm)).2 i hi]
  rfl
end Go.Proofs.YtlhhinlghhjghaaGreatDoor
