/-
  Contract of span.Express: for rows of at most 2^20 words, at most 100000 of them, in every world that holds the table of math/bits. Laid by gen_kf.py.
  Contracts of Express, the program's and the reference's, in one form; of bucketlinelaw04.awake; the walks of the laws SpanKeeps and SpanExpresses: for every input, in every world that holds the table of math/bits, each tells true and writes nothing that was there.
  Contracts of gauss.keep, gauss.Rank, bucketlineref14.Rank.
  Contracts of the method blocks of gauss.solver, with either way; gauss.Solve.
  Contract of the method blocks of gauss.solver with the way peeled.
-/
import Derived.Test.YtlhhinlghhjghaaGreatDoorU29
import Derived.Test.YtlhhinlghhjghaaGreatDoorU30
namespace Go.Proofs.YtlhhinlghhjghaaGreatDoor
open Go.RowKit Go.Sort
set_option linter.unusedVariables false
set_option linter.unusedSimpArgs false
set_option maxRecDepth 4000
set_option maxHeartbeats 8000000
theorem ZoS(a:Option Addr)(n0 c:Nat)(rs:List (List Nat))(a':Option Addr)(m c':Nat)(xs:List Nat)(w:World)(ht:Tab w)(h:VecsAt w a n0 rs)(hf:Fit 1048576 rs)(h':RowAt w a' m xs)(hn:n0≤100000)(hm:m≤1048576)
  (hno:¬firstI (reduceL (broughtL rs) xs)<0):
  Calls Tryz.prog 240 #[.slice a n0 c,.slice a' m c'] w fun e w'=>e=.returned (.tuple #[.slice none 0 0,.bool false])∧Below w.heap.size w w':=by
 have HX:=hide (ZeV a n0 c rs w ht h hf hn)
 have hbf:=ZaB hf
 have hbl:=Zct hf
 have hrl:=h.1
 have HY:=hide (fun(w1:World) (a1:Option Addr) (c1:Nat) (hb:Below w.heap.size w w1) (hv:VecsAt w1 a1 (broughtL rs).length (broughtL rs))=>ZsJ a1 _ c1 (broughtL rs) a' m c' xs w1 (ht.below hb) hv hbf (h'.below hb) (by omega) hm)
 rw[decide_eq_false hno]at HY
 clear h h' hno hf
 generalize keepL rs rs.length=kk at*
 generalize broughtL rs=bb at*
 go_enter Tryz.func240,Tryz.ntmps240
 go_wp2_with fail
 refine(unhide HX).mono ?_
 rintro e w1 ⟨vk,vb,vs,rfl,hI,hV,hb⟩
 obtain⟨a1,c1,rfl,_⟩:=hI.ints
 obtain⟨a2,c2,rfl,hvec⟩:=hV.vecs
 have HY1:=hide (unhide HY w1 a2 c2 hb hvec)
 have HB:=hide hb
 clear hI hV hb HX HY hvec
 go_wp2_with fail
 refine(unhide HY1).mono ?_
 rintro e w2 ⟨rfl,hb2⟩
 have HB2:=hide (below0 (unhide HB) hb2)
 clear hb2 HB HY1
 go_wp2
 go_ret2
 exact⟨rfl,unhide HB2⟩
theorem Zmv(a:Option Addr)(n0 c:Nat)(rs:List (List Nat))(a':Option Addr)(m c':Nat)(xs:List Nat)(w:World)(ht:Tab w)(h:VecsAt w a n0 rs)(hf:Fit 1048576 rs)(h':RowAt w a' m xs)(hn:n0≤100000)(hm:m≤1048576)
  (hyes:firstI (reduceL (broughtL rs) xs)<0):
  Calls Tryz.prog 240 #[.slice a n0 c,.slice a' m c'] w fun e w'=> ∃v,e=.returned (.tuple #[v,.bool true])∧OwnI w' w.heap.size v (exprL rs xs)∧Below w.heap.size w w':=by
 have HX:=hide (ZeV a n0 c rs w ht h hf hn)
 have hbf:=ZaB hf
 have hbl:=Zct hf
 obtain rfl:n0=rs.length:=h.1.symm
 have hbc:=Zjk rs
 have hpos:=ZlJ hf
 have HFB:=hide (ZjV hf)
 have hkl:=ZbR rs rs.length
 have HKLT:=hide (ZfY rs rs.length)
 have HY:=hide (fun(w1:World) (a1:Option Addr) (c1:Nat) (hb:Below w.heap.size w w1) (hv:VecsAt w1 a1 (broughtL rs).length (broughtL rs))=>ZsJ a1 _ c1 (broughtL rs) a' m c' xs w1 (ht.below hb) hv hbf (h'.below hb) (by omega) hm)
 rw[decide_eq_true hyes]at HY
 have HZ:=hide (fun(w1:World) (a1:Option Addr) (c1:Nat) (hb:Below w.heap.size w w1) (hv:VecsAt w1 a1 (broughtL rs).length (broughtL rs))=>Zo9 a1 _ c1 (broughtL rs) w1 (ht.below hb) hv hbf (by omega) hpos)
 have HE:Hid (exprL rs xs=chosenL (keepL rs rs.length) (fun i=>getB (reduceL (broughtL ((ZaA rs (keepL rs rs.length) (ZaT (broughtL rs)) (sizeL (keepL rs rs.length).length) (keepL rs rs.length).length).take (keepL rs rs.length).length))
  (ZbK (Zba (sizeL (keepL rs rs.length).length)) xs (ZaT (broughtL rs)) (keepL rs rs.length).length)) ((keepL rs rs.length).length+i)) (keepL rs rs.length).length):=rfl
 generalize exprL rs xs=EX at*
 clear hyes hpos
 have hfl:=Zbj (broughtL rs)
 generalize ZaT (broughtL rs)=fs at*
 generalize broughtL rs=bb at*
 generalize keepL rs rs.length=kk at*
 rw[hbc]at hfl
 have HFL:=hide hfl
 obtain⟨n,hnk⟩:∃n,kk.length=n:=⟨_,rfl⟩
 have hs1:=Zty n
 have hs2:=ZtO n (by omega)
 obtain⟨s,hse⟩:∃s,sizeL n=s:=⟨_,rfl⟩
 have hsq:((2:Int)*(n:Int)+64-1)/64=(s:Int):=by rw[←hse];unfold sizeL;omega
 rw[hse]at hs1 hs2
 rw[hnk,hse]at HE
 rw[hnk]at hbc HFL hkl
 rw[hbc]at HY HZ
 have HNK:=hide hnk
 have HBC:=hide hbc
 clear hse hfl hnk hbc hbl
 go_enter Tryz.func240,Tryz.ntmps240
 go_wp2_with fail
 refine(unhide HX).mono ?_
 rintro e w1 ⟨vk,vb,vs,rfl,hI,hV,hb⟩
 obtain⟨a1,c1,rfl, -⟩:=hI.ints
 obtain⟨a2,c2,rfl,hvec⟩:=hV.vecs
 rw[unhide HBC]at hvec
 rw[unhide HBC]
 rw[unhide HNK]
 have HY1:=hide (unhide HY w1 a2 c2 hb hvec)
 have HB:=hide hb
 have HI1:=hide hI
 have HV1:=hide hvec
 clear hI hV hb HX HY hvec
 go_wp2_with fail
 refine(unhide HY1).mono ?_
 rintro e w2 ⟨rfl,hb2⟩
 have HB2:=hide (below0 (unhide HB) hb2)
 have HI2:=hide ((unhide HI1).below hb2)
 have HZ2:=hide (unhide HZ w2 a2 c2 (unhide HB2) ((unhide HV1).below hb2))
 clear hb2 HB HY1 HI1 HV1 HZ
 go_wp2_with fail
 refine(unhide HZ2).mono ?_
 rintro e w3 ⟨vf,rfl,hF3,hb3⟩
 obtain⟨af,cf,rfl,hif⟩:=hF3.ints
 rw[unhide HFL]at hif
 rw[unhide HFL]
 have HIF:=hide hif
 have HB3:=hide (below0 (unhide HB2) hb3)
 have HI3:=hide ((unhide HI2).below hb3)
 clear hb3 HB2 HI2 HZ2 hF3 hif
 have hC4:=ZzW (n+1) s w3 (by omega) hs2
 rw[show((n+1:Nat):Int)=(n:Int)+1 by simp]at hC4
 have HC4:=hide hC4
 have hii:IntsAt w3 a1 n kk:=by
  obtain⟨_,_,e,hi⟩:=(unhide HI3).ints
  rw[unhide HNK]at e hi
  simp only[Value.slice.injEq,true_and]at e
  rw[e.1];exact hi
 have HII:=hide hii
 clear hC4 hii HI3
 go_wp2_with fail
 refine(unhide HC4).mono ?_
 rintro e w4 ⟨rfl,hC,hb4⟩
 have hlw:=(unhide HB3).size
 obtain⟨P,hPe⟩:∃P,w3.heap.size=P:=⟨_,rfl⟩
 rw[hPe]at hC hb4 hlw
 rw[hPe]
 obtain⟨R,hRe⟩:∃R,P+1=R:=⟨_,rfl⟩
 rw[hRe]at hC
 rw[hRe]
 have HPE:=hide hPe
 rw[show List.replicate (n+1) (Zba s)=ZaA rs kk fs s 0 by rw[Zpx,unhide HNK]]at hC
 have H0:=hide (And.intro hC hb4)
 clear hC hb4 hPe hRe HC4 hsq
 go_wp2
 go_loopw [38] (fun i wr=> ∃k:Nat,k≤n∧i=.int .i64 k∧Hid (CutAt wr P P R s (n+1) (ZaA rs kk fs s k)∧Below P w3 wr)) (fun i _=>n-(intOf i).toNat)
 case atStart=>exact⟨0,Nat.zero_le _,rfl,H0⟩
 case round=>
  obtain⟨k,hk,rfl,HS⟩:=hrel
  obtain⟨hC,hB⟩:=unhide HS
  clear H0 HS
  have hB':Below w3.heap.size w3 wr:=by rw[unhide HPE];exact hB
  have hPw:P≤wr.heap.size:=by have:=hB.size;rw[unhide HPE]at this;exact this
  have hml:(ZaA rs kk fs s k).length=n+1:=by rw[Zg9,unhide HNK]
  by_cases hlt:k<n
  ·have hkN:k<n+1:=by omega
   obtain⟨bk,ok,rfl,hck⟩:=(unhide HII).at hlt
   have hcellk:=(hB'.cell (World.block_lt_of_cell? w3 _ (hck k hlt))).trans (hck k hlt)
   have hplt:kk.getD k 0<rs.length:=by
    refine unhide HKLT _ ?_
    rw[List.getD_eq_getElem?_getD,List.getElem?_eq_getElem (show k<kk.length by rw[unhide HNK];exact hlt)]
    exact List.getElem_mem _
   have hMS:(ZaA rs kk fs s k).set k (setB (ZbK (Zba s) (rs.getD (kk.getD k 0) []) fs n) (n+k) true)=ZaA rs kk fs s (k+1):=by
    have:=ZtY rs kk fs s k (by rw[unhide HNK];omega)
    unfold Zep at this
    rw[unhide HNK]at this
    exact this
   have HMS:=hide hMS
   have hmg:(ZaA rs kk fs s k).getD k []=Zba s:=by rw[ZgL _ _ _ _ _ _ (by rw[unhide HNK];omega),if_neg (by omega)]
   generalize kk.getD k 0=pl at*
   obtain⟨b,off,rfl,hc⟩:=(h.below (unhide HB3)).at hplt
   obtain⟨ai,ci,hcell3,hrow3⟩:=hc pl hplt
   have hcell:=(hB'.cell (World.block_lt_of_cell? w3 _ hcell3)).trans hcell3
   have hcellR:=(hC.row hkN).2.1
   have hBD':Below w3.heap.size w3 wr.drew:=hB'.drew
   have hBD:Below P w3 wr.drew:=hB.drew
   have hlen:=(hf.getD pl).2
   have hPI:=Zox P P R s (n+1) k (ZaA rs kk fs s k) ai (rs.getD pl []).length ci (rs.getD pl []) af n cf fs wr.drew (hC.below ((Below.refl _ _).drew)) hkN (hrow3.below hBD')
    (hrow3.lt.imp id fun hl ad e e2=>by have h1:=hl ad e;have h2:=Option.some.inj e2;rw[unhide HPE]at h1;omega) ((unhide HIF).below hBD')
    ((unhide HIF).lt.imp id fun hl ad e e2=>by have h1:=hl ad e;have h2:=Option.some.inj e2;rw[unhide HPE]at h1;omega) (unhide HFB) (by omega) hs2 hlen
   rw[hmg]at hPI
   generalize rs.getD pl []=y at*
   obtain⟨po,hpo⟩:∃po,k*s=po:=⟨_,rfl⟩
   rw[hpo]at hPI hcellR
   have HPO:=hide hpo
   have HPI:=hide hPI
   have HML:=hide hml
   have HBD:=hide hBD
   have hpl2:(pl:Int)<(rs.length:Int):=by omega
   have hk1:(k:Int)<(n:Int)+1:=by omega
   clear hPI hC hc hck hcell3 hrow3 hMS hmg hB hB' hBD' h h' HIF HII HE HFB HKLT hml hpo hBD
   go_wp2_with fail
   refine wp_region_any (by kernel_rfl) ?_
   change wpAny _ _ _ _ _ _ _ (World.drew _)
   refine wpAny_take (i:=0) (v:=?_) rfl (by kernel_rfl) (by kernel_rfl) (by kernel_rfl) (fun _ _ _ h=>h) (Or.inl ⟨by rfl,?f0⟩) ?_
   case f0=>(intro w;go_simp;try with_reducible rfl)
   refine wpAny_take (i:=1) (v:=?_) rfl (by kernel_rfl) (by kernel_rfl) (by kernel_rfl) (fun _ _ _ h=>h) (Or.inl ⟨by rfl,?f1⟩) ?_
   case f1=>(intro w;go_simp;try with_reducible rfl)
   refine wpAny_take (i:=2) (v:=?_) rfl (by kernel_rfl) (by kernel_rfl) (by kernel_rfl) (fun _ _ _ h=>h) (Or.inl ⟨by rfl,?f2⟩) ?_
   case f2=>(intro w;go_simp;try with_reducible rfl)
   refine wpAny_take (i:=4) (v:=?_) rfl (by kernel_rfl) (by kernel_rfl) (by kernel_rfl) (fun _ _ _ h=>h) (Or.inl ⟨by rfl,?f4⟩) ?_
   case f4=>(intro w;go_simp;try with_reducible rfl)
   refine wpAny_take (i:=5) (v:=?_) rfl (by kernel_rfl) (by kernel_rfl) (by kernel_rfl) (fun _ _ _ h=>h) (Or.inl ⟨by rfl,?f5⟩) ?_
   case f5=>(intro w;go_simp;try with_reducible rfl)
   refine wpAny_take (i:=6) (v:=?_) rfl (by kernel_rfl) (by kernel_rfl) (by kernel_rfl) (fun _ _ _ h=>h) (Or.inl ⟨by rfl,?f6⟩) ?_
   case f6=>(intro w;go_simp;try with_reducible rfl)
   refine wpAny_take (i:=8) (v:=?_) rfl (by kernel_rfl) (by kernel_rfl) (by kernel_rfl) (fun _ _ _ h=>h) (Or.inl ⟨by rfl,?f8⟩) ?_
   case f8=>(intro w;go_simp;try with_reducible rfl)
   refine wpAny_ready (rs:=[3,7]) (by kernel_rfl) (by simp) ?_
   refine AllReady.cons rfl (fun K hK=>?r1) (AllReady.cons rfl (fun K hK=>?r2) AllReady.nil)
   case r1=>
    go_simp
    refine hK _ _ ?_
    clear hK K
    refine wpAny_ready (rs:=[7]) (by kernel_rfl) (by simp) ?_
    refine AllReady.cons rfl (fun K hK=>?_) AllReady.nil
    go_simp
    refine hK _ _ ?_
    clear hK K
    refine wpAny_ready (rs:=[9]) (by kernel_rfl) (by simp) ?_
    refine AllReady.cons rfl (fun K hK=>?_) AllReady.nil
    go_simp
    refine(unhide HPI).mono ?_
    rintro e w5 ⟨rfl,hC5,hg5⟩
    have hB5:=(unhide HBD).trans (Zat hg5 (show P≤wr.drew.heap.size from hPw) (fun j hj=>by have:=Option.some.inj hj;omega))
    have hcell5:=(hC5.row hkN).2.1
    obtain⟨x,hx1,hx2,hx3,hx4⟩:=ZfX hC5 hkN (unhide HML) (show n+k<64*s by omega)
    rw[unhide HPO]at hx1 hx3 hx4 hcell5
    have hX:=Zi2 P po s s (n+k) x w5 (by omega) (by omega) hx1 hx2 hx3
    rw[show((n+k:Nat):Int)=(n:Int)+(k:Int) by simp]at hX
    have HX:=hide hX
    rw[unhide HMS]at hx4
    have HN:=hide (And.intro hx4 (hB5.setCell (p:=⟨P,po+(n+k)/64,none⟩) (by exact Nat.le_refl _) (.int .u64 ((setW x ((n+k)%64) true:Nat):Int))))
    clear hX hx1 hx3 hx4 hB5 hC5 hg5 HPI HBD
    refine hK _ _ ?_
    clear hK K
    refine wpAny_done (by kernel_rfl) ?_ _
    go_wp2_with fail
    refine(unhide HX).mono ?_
    rintro e w6 ⟨rfl,hw⟩
    rw[←hw]at HN
    clear hw HX hcell5
    go_wp2
    go_roundw
    case rel=>exact⟨k+1,by omega,by go_num,HN⟩
    case measure=>simp[intOf];omega
   case r2=>
    go_simp
    refine hK _ _ ?_
    clear hK K
    refine wpAny_ready (rs:=[3]) (by kernel_rfl) (by simp) ?_
    refine AllReady.cons rfl (fun K hK=>?_) AllReady.nil
    go_simp
    refine hK _ _ ?_
    clear hK K
    refine wpAny_ready (rs:=[9]) (by kernel_rfl) (by simp) ?_
    refine AllReady.cons rfl (fun K hK=>?_) AllReady.nil
    go_simp
    refine(unhide HPI).mono ?_
    rintro e w5 ⟨rfl,hC5,hg5⟩
    have hB5:=(unhide HBD).trans (Zat hg5 (show P≤wr.drew.heap.size from hPw) (fun j hj=>by have:=Option.some.inj hj;omega))
    have hcell5:=(hC5.row hkN).2.1
    obtain⟨x,hx1,hx2,hx3,hx4⟩:=ZfX hC5 hkN (unhide HML) (show n+k<64*s by omega)
    rw[unhide HPO]at hx1 hx3 hx4 hcell5
    have hX:=Zi2 P po s s (n+k) x w5 (by omega) (by omega) hx1 hx2 hx3
    rw[show((n+k:Nat):Int)=(n:Int)+(k:Int) by simp]at hX
    have HX:=hide hX
    rw[unhide HMS]at hx4
    have HN:=hide (And.intro hx4 (hB5.setCell (p:=⟨P,po+(n+k)/64,none⟩) (by exact Nat.le_refl _) (.int .u64 ((setW x ((n+k)%64) true:Nat):Int))))
    clear hX hx1 hx3 hx4 hB5 hC5 hg5 HPI HBD
    refine hK _ _ ?_
    clear hK K
    refine wpAny_done (by kernel_rfl) ?_ _
    go_wp2_with fail
    refine(unhide HX).mono ?_
    rintro e w6 ⟨rfl,hw⟩
    rw[←hw]at HN
    clear hw HX hcell5
    go_wp2
    go_roundw
    case rel=>exact⟨k+1,by omega,by go_num,HN⟩
    case measure=>simp[intOf];omega
  ·obtain rfl:k=n:=by omega
   have hkN:k<k+1:=by omega
   have hmg:(ZaA rs kk fs s k).getD k []=Zba s:=by rw[ZgL _ _ _ _ _ _ (by rw[unhide HNK];omega),if_neg (by omega)]
   have hcellR:=(hC.row hkN).2.1
   have h3:=h'.below (unhide HB3)
   have hPI:=Zox P P R s (k+1) k (ZaA rs kk fs s k) a' m c' xs af k cf fs wr hC hkN (h3.below hB')
    (h3.lt.imp id fun hl ad e e2=>by have h1:=hl ad e;have h2:=Option.some.inj e2;rw[unhide HPE]at h1;omega) ((unhide HIF).below hB')
    ((unhide HIF).lt.imp id fun hl ad e e2=>by have h1:=hl ad e;have h2:=Option.some.inj e2;rw[unhide HPE]at h1;omega) (unhide HFB) (by omega) hs2 hm
   rw[hmg]at hPI
   have hqs:=ZbP (Zbe s) xs fs k
   have hql:(ZbK (Zba s) xs fs k).length=s:=by rw[ZcF,Zbk]
   have hfR:=Ztt rs kk fs s k k (ZbK (Zba s) xs fs k) hqs hql 1048576 (by omega)
   have hmt:((ZaA rs kk fs s k).set k (ZbK (Zba s) xs fs k)).take k=(ZaA rs kk fs s k).take k:=by
    have:=Zh2 rs kk fs s (ZbK (Zba s) xs fs k)
    rw[unhide HNK]at this
    exact this
   have hqg:((ZaA rs kk fs s k).set k (ZbK (Zba s) xs fs k)).getD k []=ZbK (Zba s) xs fs k:=by rw[Zhs _ _ _ _ (by omega),if_pos rfl]
   obtain⟨po,hpo⟩:∃po,k*s=po:=⟨_,rfl⟩
   rw[hmt]at hfR
   generalize ZbK (Zba s) xs fs k=q at*
   rw[hpo]at hPI hcellR
   have HPO:=hide hpo
   have HQL:=hide hql
   have HPI:=hide hPI
   have HB:=hide hB
   have HBw:=hide (((unhide HB3).trans ((hB.mono hlw))))
   have HMT:=hide hmt
   have HQG:=hide hqg
   have hvs:=ZrK R 0 (k+1) (k+1) k (by omega)
   clear hPI hC hmg hB' h h' h3 HFB HKLT HIF hB hmt hqg hml hpo hql
   go_wp2_with fail
   refine(unhide HPI).mono ?_
   rintro e w5 ⟨rfl,hC5,hg5⟩
   have hB5:Below P w3 w5:=(unhide HB).trans (Zat hg5 hPw (fun j hj=>by have:=Option.some.inj hj;omega))
   have hBw5:Below w.heap.size w w5:=(unhide HBw).trans (Zat hg5 (unhide HBw).size (fun j hj=>by have:=Option.some.inj hj;omega))
   have hv5:=hC5.vecs (k:=k) (by omega)
   rw[unhide HMT]at hv5
   have HSI:=hide (ZeV (some ⟨R,0,none⟩) k (k+1) ((ZaA rs kk fs s k).take k) w5 (ht.below hBw5) hv5 hfR (by omega))
   have hii5:IntsAt w5 a1 k kk:=(unhide HII).below (by rw[unhide HPE];exact hB5)
   have HII5:=hide hii5
   have HC5:=hide hC5
   have HBw5:=hide hBw5
   have hmf:=ZaB hfR
   have hmb:=Zct hfR
   have htl:((ZaA rs kk fs s k).take k).length≤k:=List.length_take_le _ _
   generalize (ZaA rs kk fs s k).take k=RL at*
   generalize (ZaA rs kk fs s k).set k q=RN at*
   clear hB5 hBw5 hv5 hii5 hC5 hg5 HPI HB HBw HII HMT hcellR hfR
   go_wp2_with fail
   refine(unhide HSI).mono ?_
   rintro e w6 ⟨vk6,vb6,vs6,rfl,hI6,hV6,hb6⟩
   obtain⟨a6,c6,rfl, -⟩:=hI6.ints
   obtain⟨a7,c7,rfl,hv7⟩:=hV6.vecs
   obtain⟨hrq,hcq, -⟩:=((unhide HC5).below hb6).row hkN
   rw[unhide HQG,unhide HPO]at hrq
   rw[unhide HPO]at hcq
   have HBw6:=hide (below0 (unhide HBw5) hb6)
   have HII6:=hide ((unhide HII5).below hb6)
   have HRD:=hide (Zfr a7 _ c7 (broughtL RL) (some ⟨P,po,none⟩) s s q w6 (ht.below (unhide HBw6)) hv7 hmf hrq (by omega) (by omega))
   have hrl:=Zao hmf hqs (by rw[unhide HQL];omega:q.length≤1048576)
   clear hI6 hV6 hv7 hrq hb6 HSI HC5 HII5 HBw5
   generalize keepL RL RL.length=kk6 at*
   generalize broughtL RL=br at*
   go_wp2_with fail
   refine(unhide HRD).mono ?_
   rintro e w7 ⟨v7,rfl,ho7,hb7⟩
   obtain⟨ar,cr,rfl,hr7⟩:=ho7.row
   have HCH:=hide (Zpb a1 k c1 kk ar _ cr (reduceL br q) w7 ((unhide HII6).below hb7) hr7 (by omega) hrl.2)
   have HBw7:=hide (below0 (unhide HBw6) hb7)
   clear ho7 hr7 hb7 HBw6 HII6 HRD
   rw[←unhide HE]at HCH
   generalize reduceL br q=rq at*
   go_wp2_with fail
   refine(unhide HCH).mono ?_
   rintro e w8 ⟨v8,rfl,hI8,hb8⟩
   obtain⟨a8,c8,rfl, -⟩:=hI8.ints
   have HI8:=hide (hI8.mono (unhide HBw7).size)
   have HB8:=hide (below0 (unhide HBw7) hb8)
   clear hI8 hb8 HBw7 HCH
   go_wp2
   go_ret2
   exact⟨_,rfl,unhide HI8,unhide HB8⟩
theorem Zl2(a:Option Addr)(n c:Nat)(rs:List (List Nat))(a':Option Addr)(m c':Nat)(xs:List Nat)(w:World)(ht:Tab w)(h:VecsAt w a n rs)(hf:Fit 1048576 rs)(h':RowAt w a' m xs)(hn:n≤100000)(hm:m≤1048576):
  Calls Tryz.prog 240 #[.slice a n c,.slice a' m c'] w fun e w'=> ∃v,e=.returned (.tuple #[v,.bool (!ZdM rs xs)])∧OwnI w' w.heap.size v (exL rs xs)∧Below w.heap.size w w':=by
 by_cases hy:firstI (reduceL (broughtL rs) xs)<0
 ·have e1:exL rs xs=exprL rs xs:=by unfold exL;rw[if_pos hy]
  have e2:ZdM rs xs=false:=by unfold ZdM;rw[decide_eq_true hy];rfl
  rw[e1,e2]
  exact Zmv a n c rs a' m c' xs w ht h hf h' hn hm hy
 ·have e1:exL rs xs=[]:=by unfold exL;rw[if_neg hy]
  have e2:ZdM rs xs=true:=by unfold ZdM;rw[decide_eq_false hy];rfl
  rw[e1,e2]
  refine(ZoS a n c rs a' m c' xs w ht h hf h' hn hm hy).mono ?_
  rintro e w' ⟨rfl,hb⟩
  exact⟨_,rfl,OwnI.nil _ _,hb⟩
theorem Zlg(ts:List RV)(i:Nat):(ts.map core).getD i zC=core (ts.getD i .dflt):=by
 rw[List.getD_eq_getElem?_getD,List.getElem?_map,List.getD_eq_getElem?_getD]
 cases ts[i]? <;>rfl
theorem ZfC(ts:List RV):vecsL ts=vecsC (ts.map core):=by
 unfold vecsL vecsC
 rw[List.map_map];rfl
theorem ZwP(ts:List RV)(ps:List Nat):(atR ts ps).map core=atC (ts.map core) ps:=by
 unfold atR atC
 rw[List.map_map]
 exact List.map_congr_left fun i _=>(Zlg ts i).symm
theorem Zl7(ts:List RV)(ps:List Nat):ZbV (atR ts ps)=Zdy (ts.map core) ps:=by
 unfold ZbV atR Zdy
 rw[List.map_map]
 refine List.map_congr_left fun i _=>?_
 rw[Zlg];rfl
def ZeY(ts:List RV):List RV:=atR ts (keepL (vecsL ts) ts.length)
theorem Zib(ts:List RV):(ZeY ts).map core=Zcv (ts.map core):=by
 unfold ZeY Zcv
 rw[ZwP,ZfC,List.length_map]
theorem Zk6(ts:List RV):(ZeY ts).length=(keepL (vecsL ts) ts.length).length:=by simp[ZeY,atR]
theorem Zvz(ts:List RV):(ZeY ts).length≤ts.length:=by rw[Zk6];exact ZbR _ _
theorem Zup(ts:List RV):∀i∈keepL (vecsL ts) ts.length,i<ts.length:=ZfY _ _
theorem ZsH(a:Option Addr)(n c:Nat)(ts:List RV)(w:World)(ht:Tab w)(h:RowsAt w a n ts)(hr:RowsIn w ts)(hs:shortR ts)(hn:n≤100000):
  Calls Tryz.prog 239 #[.slice a n c] w fun e w'=> ∃a1 c1,e=.returned (.slice a1 (ZeY ts).length c1)∧OwnS w' w.heap.size (.slice a1 (ZeY ts).length c1) (ZeY ts)∧Below w.heap.size w w':=by
 obtain rfl:=h.1
 have HV:=hide (Zhw a ts.length c ts w h (by omega))
 have HK:=hide (fun(w1:World) (a1:Option Addr) (c1:Nat) (hb:Below w.heap.size w w1) (hv:VecsAt w1 a1 ts.length (vecsL ts))=>Znu a1 ts.length c1 (vecsL ts) w1 (ht.below hb) hv (Zrb hr hs) hn)
 have HA:=hide (fun(w1:World) (ap:Option Addr) (np cp:Nat) (hb:Below w.heap.size w w1) (hp:IntsAt w1 ap np (keepL (vecsL ts) ts.length)) (hnp:np≤1048576)=>Zx7 a ts.length c ts ap np cp (keepL (vecsL ts) ts.length) w1 (h.below hb) hp (Zup ts) (by omega) hnp)
 have HKL:=hide (ZbR (vecsL ts) ts.length)
 have HR:=hide hr
 clear h hr hs ht
 go_enter Tryz.func239,Tryz.ntmps239
 go_wp2_with fail
 refine(unhide HV).mono ?_
 rintro e w1 ⟨v1,rfl,ho1,hb1⟩
 obtain⟨a1,c1,rfl,hv1⟩:=ho1.vecs ((unhide HR).below hb1)
 have HK1:=unhide HK w1 a1 c1 hb1 hv1
 rw[Zdq]at HK1
 have HK1:=hide HK1
 have HB1:=hide hb1
 clear ho1 hb1 hv1 HV HK
 go_wp2_with fail
 refine(unhide HK1).mono ?_
 rintro e w2 ⟨v2,rfl,ho2,hb2⟩
 obtain⟨a2,c2,rfl,hi2⟩:=ho2.ints
 have HB2:=hide (below0 (unhide HB1) hb2)
 have HA2:=hide (unhide HA w2 a2 _ c2 (unhide HB2) hi2 (by have:=unhide HKL;omega))
 clear ho2 hb2 hi2 HK1 HA HB1
 go_wp2_with fail
 refine(unhide HA2).mono ?_
 rintro e w3 ⟨v3,rfl,ho3,hb3⟩
 obtain⟨a3,c3,rfl⟩:=ho3.shape
 have HO3:=hide (ho3.mono (unhide HB2).size)
 have HB3:=hide (below0 (unhide HB2) hb3)
 clear ho3 hb3 HA2 HB2
 go_wp2
 go_ret
 exact⟨a3,c3,rfl,unhide HO3,unhide HB3⟩
theorem ZBg(rs:List (List Nat))(xs:List Nat):(∀i∈exL rs xs,i<rs.length)∧(exL rs xs).length≤rs.length:=by
 have hkl:=ZbR rs rs.length
 unfold exL
 split
 ·unfold exprL
  exact⟨Zkt (Nat.le_refl _),Nat.le_trans (Zfy _ _ _) hkl⟩
 ·exact⟨(fun i hi=>by cases hi),Nat.zero_le _⟩
def WayR(w w':World)(L:List (List Nat×ByteArray))(a1:Option Addr)(m1 c1:Nat)(us:List RV):Prop:=
 OwnS w' w.heap.size (.slice a1 m1 c1) us∧RowsIn w' us∧shortR us∧us.length≤1000∧us.map core=L∧Below w.heap.size w w'
theorem Zqb(K:Nat)(us:List RV)(b:Nat):st (sumL (ZbV (atR (ZeY us) (exL (vecsL (ZeY us)) (unitL (K:Int) (b:Int))))))=blockC (K:Int) (us.map core) b:=by
 unfold blockC
 rw[Zl7,Zib,ZfC,Zib]
theorem Zjg(k:Int)(a:Option Addr)(n c:Nat)(L:List (List Nat×ByteArray))(w:World)(ht:Tab w)
  (hw:∀w1,Below w.heap.size w w1→Calls Tryz.prog 210 #[.int .i64 k,.slice a n c] w1 fun e w'=> ∃a1 m1 c1 us,e=.returned (.slice a1 m1 c1)∧WayR w1 w' L a1 m1 c1 us):
  Calls Tryz.prog 211 #[.agg #[.int .i64 k,.func (.func 210) #[] #[]],.slice a n c] w fun e w'=> ∃a1 m1 c1,e=.returned (.tuple #[.slice a1 m1 c1,.bool (okC k L)])∧OwnT w' w.heap.size (.slice a1 m1 c1) (solveC k L)∧Below w.heap.size w w':=by
 have hb0:Below w.heap.size w (w.alloc (.cells #[.int .i64 k,.func (.func 210) #[] #[]] 311)):=(Below.refl _ _).alloc (Nat.le_refl _) _
 have hx:BoxAt (w.alloc (.cells #[.int .i64 k,.func (.func 210) #[] #[]] 311)) w.heap.size (.int .i64 k) (.func (.func 210) #[] #[]):=by constructor<;>simp
 have HBX:=hide (fun w2 (hb:Below (w.alloc (.cells #[.int .i64 k,.func (.func 210) #[] #[]] 311)).heap.size (w.alloc (.cells #[.int .i64 k,.func (.func 210) #[] #[]] 311)) w2)=>hx.below hb)
 have HB0:=hide hb0
 have HW:=hide (hw _ hb0)
 have HZ:=hide (Zcd k)
 have HTB:=hide (fun(w1:World) (hb:Below w.heap.size w w1)=>ht.below hb)
 clear hw hb0 hx ht
 by_cases hz:sizeOfK k=0
 ·have hok:okC k L=false:=by unfold okC;rw[hz];rfl
  have hso:solveC k L=[]:=by unfold solveC;rw[hok];rfl
  rw[hz]at HZ
  go_enter Tryz.func211,Tryz.ntmps211
  go_wp2_with (go_at_call 177;refine(unhide HZ _).mono ?_;rintro e w' ⟨rfl,hw'⟩;obtain rfl:=hw'.symm;clear hw')
  go_ret2
  rw[hok,hso]
  exact⟨none,0,0,rfl,OwnT.nil _ _,unhide HB0⟩
 have HSZ:=hide (show 0<sizeOfK k by omega)
 obtain⟨h1k,hk128⟩:=(ZaC (k:=k) (by omega)).2
 obtain⟨K,rfl⟩:∃K:Nat,k=(K:Int):=⟨k.toNat,(Int.toNat_of_nonneg (by omega)).symm⟩
 obtain⟨z,hze⟩:∃z,sizeOfK (K:Int)=z:=⟨_,rfl⟩
 rw[hze]at HZ hz
 have hzne:((z:Int)==0)=false:=by rw[beq_eq_false_iff_ne];omega
 clear hze
 go_enter Tryz.func211,Tryz.ntmps211
 go_wp2_with fail
 refine(unhide HZ _).mono ?_
 rintro e w' ⟨rfl,hw'⟩
 obtain rfl:=hw'.symm
 clear hw' HZ
 go_wp2_with fail
 refine(unhide HW).mono ?_
 rintro e w1 ⟨a1,m1,c1,us,rfl,ho1,hi1,hs1,hl1,hL,hb1⟩
 have hB1:=below0 (unhide HB0) hb1
 obtain⟨hx0,hx1⟩:=unhide HBX w1 hb1
 have HGK:=hide (ZsH a1 m1 c1 us w1 (unhide HTB w1 hB1) (ho1.at' hi1).1 hi1 hs1 (by have:=(ho1.at' hi1).2.1;omega))
 have HKI:=hide (fun(w2:World) (hb:Below w1.heap.size w1 w2)=>(hi1.below hb).atR (Zup us))
 have HKS:=hide (Zkr hs1 (keepL (vecsL us) us.length))
 have HKN:=hide (Zvz us)
 have HB1:=hide hB1
 have HBX1:=hide (fun(w2:World) (hb:Below w1.heap.size w1 w2)=>(BoxAt.below ⟨hx0,hx1⟩ hb:BoxAt w2 w.heap.size (.int .i64 (K:Int)) (.func (.func 210) #[] #[])))
 have hokE:okC (K:Int) L=decide ((K:Int)≤((ZeY us).length:Int)):=by
  unfold okC
  rw[decide_eq_true (unhide HSZ),Bool.true_and,Zk6,ZfC,hL,←hL,List.length_map]
 have HOK:=hide hokE
 have HTX:=hide (fun b=>Zqb K us b)
 rw[hL]at HTX
 change Hid (∀(w2:World),Below w1.heap.size w1 w2→RowsIn w2 (ZeY us))at HKI
 change Hid (shortR (ZeY us))at HKS
 clear HW ho1 hi1 hs1 hL hb1 hB1 hokE HBX HB0
 generalize ZeY us=ks at*
 go_wp2_with fail
 refine(unhide HGK).mono ?_
 rintro e w2 ⟨a2,c2,rfl,ho2,hb2⟩
 obtain⟨hx0,hx1⟩:=unhide HBX1 w2 hb2
 have hi2:=unhide HKI w2 hb2
 have HR2:=hide (ho2.at' hi2).1
 have HI2:=hide hi2
 have HB2:=hide (below0 (unhide HB1) hb2)
 have HBX2:=hide (fun(w3:World) (hb:Below w2.heap.size w2 w3)=>(BoxAt.below ⟨hx0,hx1⟩ hb:BoxAt w3 w.heap.size (.int .i64 (K:Int)) (.func (.func 210) #[] #[])))
 clear HGK ho2 hi2 hb2 HKI HB1 HBX1
 by_cases hlt:ks.length<K
 ·have hok:okC (K:Int) L=false:=by rw[unhide HOK,decide_eq_false_iff_not];omega
  have hso:solveC (K:Int) L=[]:=by unfold solveC;rw[hok];rfl
  have hd:decide ((ks.length:Int)<(K:Int))=true:=by rw[decide_eq_true_iff];omega
  go_wp2
  go_ret2
  rw[hok,hso]
  exact⟨none,0,0,rfl,OwnT.nil _ _,unhide HB2⟩
 have hok:okC (K:Int) L=true:=by rw[unhide HOK,decide_eq_true_iff];omega
 have hso:solveC (K:Int) L=(List.range K).map (blockC (K:Int) L):=by unfold solveC;rw[hok,if_pos rfl,Int.toNat_natCast]
 have hd:decide ((ks.length:Int)<(K:Int))=false:=by rw[decide_eq_false_iff_not];omega
 have hlk:ks.length≤1000:=by have:=unhide HKN;omega
 have HV:=hide (Zhw a2 ks.length c2 ks w2 (unhide HR2) (by omega))
 clear HOK HKN
 go_wp2_with fail
 refine(unhide HV).mono ?_
 rintro e w3 ⟨v3,rfl,ho3,hb3⟩
 obtain⟨a3,c3,rfl,hv3⟩:=ho3.vecs ((unhide HI2).below hb3)
 obtain⟨hx0,hx1⟩:=unhide HBX2 w3 hb3
 have HV3:=hide hv3
 have HI3:=hide ((unhide HI2).below hb3)
 have HR3:=hide ((unhide HR2).below hb3)
 have HB3:=hide (below0 (unhide HB2) hb3)
 have HFT:=hide (Zrb (unhide HI3) (unhide HKS))
 have HBX3:=hide (fun(w4:World) (hb:Below w3.heap.size w3 w4)=>(BoxAt.below ⟨hx0,hx1⟩ hb:BoxAt w4 w.heap.size (.int .i64 (K:Int)) (.func (.func 210) #[] #[])))
 have hmk:=ZfO K (by omega)
 obtain⟨SS,hSS⟩:∃SS,SS=(List.range K).map (blockC (K:Int) L):=⟨_,rfl⟩
 have HSL:Hid (SS.length=K):=hide (by rw[hSS];simp)
 have HSG:Hid (∀b,b<K→SS.getD b ByteArray.empty=blockC (K:Int) L b):=hide (fun b hb=>by rw[hSS,List.getD_eq_getElem?_getD,List.getElem?_map,List.getElem?_range hb];rfl)
 rw[←hSS]at hso
 have HOK:=hide hok
 have HSO:=hide hso
 clear hok hso
 have HM:=hide (ZcN w3 K (by omega) (filT SS 0) (by rw[Zln,unhide HSL]))
 have HBM:Hid (Below w3.heap.size w3 (w3.alloc (.cells (madeCells #[.string ByteArray.empty] K) 9))):=hide ((Below.refl _ _).alloc (Nat.le_refl _) _)
 clear HV ho3 hb3 hv3 HI2 HR2 HB2 HBX2 hSS
 go_wp2
 go_loopw [35] (fun i wr=> ∃j:Nat,j≤K∧i=.int .i64 j∧Hid (OwnT wr w3.heap.size (.slice (some ⟨w3.heap.size,0,none⟩) K K) (filT SS j))∧Hid (Below w3.heap.size w3 wr)) (fun i _=>K-(intOf i).toNat)
 case atStart=>exact⟨0,Nat.zero_le _,rfl,HM,HBM⟩
 case round=>
  obtain⟨j,hj,rfl,HI,HB⟩:=hrel
  clear HM HBM hx0 hx1
  by_cases hlt2:j<K
  ·have hB:=unhide HB
   obtain⟨hx0,hx1⟩:=unhide HBX3 wr hB
   have hlt':(j:Int)<(K:Int):=by omega
   have HU:=hide (ZnU (K:Int) (j:Int) wr (by omega))
   have HEX:=hide (fun(w4:World) (a4:Option Addr) (m4 c4:Nat) (hb:Below wr.heap.size wr w4) (h4:RowAt w4 a4 m4 (unitL (K:Int) (j:Int))) (hm4:m4≤1048576)=>Zl2 a3 ks.length c3 (vecsL ks) a4 m4 c4 (unitL (K:Int) (j:Int)) w4 (unhide HTB w4 (below0 (unhide HB3) (below0 hB hb))) ((unhide HV3).below (below0 hB hb)) (unhide HFT) h4 (by omega) hm4)
   have hes:=ZBg (vecsL ks) (unitL (K:Int) (j:Int))
   rw[Zdq]at hes
   have HDA:=hide (fun(w5:World) (a5:Option Addr) (m5 c5:Nat) (hb:Below wr.heap.size wr w5) (h5:IntsAt w5 a5 m5 (exL (vecsL ks) (unitL (K:Int) (j:Int))))=>Zws a2 ks.length c2 ks a5 m5 c5 _ w5 ((unhide HR3).below (below0 hB hb)) ((unhide HI3).below (below0 hB hb)) (unhide HKS) h5 hes.1 (by omega) (by have:=h5.1;omega))
   rw[unhide HTX j]at HDA
   have hul:(unitL (K:Int) (j:Int)).length≤1048576:=by rw[Zea hlt'];have:=Zas (K:Int);omega
   have hS:=Zlv SS j (by have:=unhide HSL;omega)
   rw[unhide HSG j hlt2]at hS
   have hfl:(filT SS j).length=K:=by rw[ZhL _ _ (by have:=unhide HSL;omega),unhide HSL]
   have HST:=hide (fun(w6:World) (hb:Below wr.heap.size wr w6)=>by
    have hI:=(unhide HI).below hb
    obtain⟨g2,cap2,e2,_,_,hcg2,hfg2⟩:=hI.at (by omega)
    simp only[Value.slice.injEq,Option.some.injEq,Addr.mk.injEq,and_true]at e2
    obtain⟨rfl, -, -⟩:=e2
    have hs2:=hI.stored j (blockC (K:Int) L j)
    rw[hS]at hs2
    exact And.intro (hcg2 j (by omega)) (And.intro (hfg2 j) (And.intro hs2 ((below0 hB hb).setCell (p:=⟨w3.heap.size,j,none⟩) (Nat.le_refl _) (.string (blockC (K:Int) L j))))))
   clear hB hes hS hfl HI
   generalize (filT SS j).getD j ByteArray.empty=zz at*
   generalize blockC (K:Int) L j=TX at*
   generalize exL (vecsL ks) (unitL (K:Int) (j:Int))=PS at*
   generalize unitL (K:Int) (j:Int)=UU at*
   go_wp2_with fail
   refine(unhide HU).mono ?_
   rintro e w4 ⟨v4,rfl,ho4,hb4⟩
   obtain⟨a4,c4,rfl,hr4⟩:=ho4.row
   have HEX4:=hide (unhide HEX w4 a4 _ c4 hb4 hr4 hul)
   have HB4:=hide hb4
   clear ho4 hb4 hr4 HU HEX
   go_wp2_with fail
   refine(unhide HEX4).mono ?_
   rintro e w5 ⟨v5,rfl,ho5,hb5⟩
   obtain⟨a5,c5,rfl,hi5⟩:=ho5.ints
   have hB5:=below0 (unhide HB4) hb5
   have HD5:=hide (unhide HDA w5 a5 _ c5 hB5 hi5)
   have HB5:=hide hB5
   clear ho5 hb5 hi5 hB5 HEX4 HDA HB4
   go_wp2_with fail
   refine(unhide HD5).mono ?_
   rintro e w6 ⟨rfl,hb6⟩
   obtain⟨hcell,hfz,hs2,hB2⟩:=unhide HST w6 (below0 (unhide HB5) hb6)
   have HS:=hide hs2
   have HB6:=hide hB2
   clear hb6 hs2 hB2 HST HD5 HB5
   go_wp2
   go_roundw
   case rel=>exact⟨j+1,by omega,by go_num,HS,HB6⟩
   case measure=>simp[intOf];omega
  ·obtain rfl:j=K:=by omega
   have hlt':¬(j:Int)<(j:Int):=by omega
   rw[show filT SS j=SS by have:=ZmX SS;rwa[unhide HSL]at this]at HI
   go_wp2
   go_ret2
   rw[unhide HOK,unhide HSO]
   exact⟨_,_,_,rfl,(unhide HI).mono (unhide HB3).size,below0 (unhide HB3) (unhide HB)⟩
end Go.Proofs.YtlhhinlghhjghaaGreatDoor
