/-
  Plain mathematics of elimination: k rows of k blocks that none of them is made of others make every block; what is told of rows that are true of blocks is these.
  Contracts of gauss.data, gauss.keep, gauss.Rank.
-/
import Derived.Test.YtlhhinlghhjghaaGreatDoorU29
import Derived.Test.YtlhhinlghhjghaaGreatDoorU28
namespace Go.Proofs.YtlhhinlghhjghaaGreatDoor
open Go.RowKit Go.Sort
set_option linter.unusedVariables false
set_option linter.unusedSimpArgs false
set_option maxRecDepth 4000
set_option maxHeartbeats 8000000
variable {L:List (List Nat×ByteArray)}{ss:List ByteArray}{m:Nat}
theorem ZnK:∀(l:List Nat) (a n:Nat),l.Pairwise (· < ·)→(∀x∈l,a≤x∧x<n)→a≤n→l.length≤n-a∧(l.length=n-a→∀x,a≤x→x<n→x∈l)
 |[],a,n,_,_,_=>⟨Nat.zero_le _,fun h x h1 h2=>by simp at h;omega⟩
 |y::l,a,n,hp,hb,hn=>by
  have h1:=hb y List.mem_cons_self
  obtain⟨i1,i2⟩:=ZnK l (y+1) n (List.pairwise_cons.1 hp).2 (fun x hx=>⟨(List.pairwise_cons.1 hp).1 x hx,(hb x (List.mem_cons_of_mem _ hx)).2⟩) (by omega)
  refine⟨by rw[List.length_cons];omega,fun h x h2 h3=>?_⟩
  rw[List.length_cons]at h
  have hy:y=a:=by omega
  subst hy
  by_cases e:x=y
  ·rw[e];exact List.mem_cons_self
  ·exact List.mem_cons_of_mem _ (i2 (by omega) x (by omega) h3)
theorem ZwT{B:List Nat}{k:Nat}(h:Ech.Red B)(hb:∀b∈B,b<2^k):B.length≤k∧(B.length=k→∀i,i<k→2^i∈B):=by
 have hp:(B.map Ech.low).Pairwise (· < ·):=by
  rw[List.pairwise_map]
  exact h.2.imp fun h=>h.1
 have hm:∀x∈B.map Ech.low,0≤x∧x<k:=fun x hx=>by
  obtain⟨b,hb',rfl⟩:=List.mem_map.1 hx
  exact⟨Nat.zero_le _,Ech.low_lt (h.1 b hb') (hb b hb')⟩
 obtain⟨h1,h2⟩:=ZnK _ 0 k hp hm (Nat.zero_le _)
 rw[List.length_map]at h1 h2
 refine⟨by omega,fun e i hi=>?_⟩
 obtain⟨b,hb1,hb2⟩:=List.mem_map.1 (h2 (by omega) i (Nat.zero_le _) hi)
 suffices b=2^i by rw[←this];exact hb1
 apply Nat.eq_of_testBit_eq
 intro j
 rw[Nat.testBit_two_pow]
 by_cases e1:i=j
 ·rw[decide_eq_true e1,←e1,←hb2,Ech.low_bit (h.1 b hb1)]
 ·rw[decide_eq_false e1]
  by_cases hj:j<k
  ·obtain⟨c,hc1,hc2⟩:=List.mem_map.1 (h2 (by omega) j (Nat.zero_le _) hj)
   have:=(h.two hb1 hc1 (fun e2=>e1 (by rw[←hb2,←hc2,e2]))).2
   rwa[hc2]at this
  ·exact Nat.testBit_lt_two_pow (Nat.lt_of_lt_of_le (hb b hb1) (Nat.pow_le_pow_right (by omega) (by omega)))
theorem ZBH{B:List Nat}{k x:Nat}(h:∀b∈B,b<2^k)(hx:Ech.Sp B x):x<2^k:=
 Ech.Sp.ind (P:=fun x=>x<2^k) (Nat.two_pow_pos k) (fun b x hb hx=>Nat.xor_lt_two_pow (h b hb) hx) hx
theorem Zui{k:Int}{xs:List Nat}(hs:smalls xs)(h:Zaj k xs=true):val xs<2^k.toNat:=by
 apply Nat.lt_pow_two_of_testBit
 intro i hi
 rw[ZaN hs]
 cases hg:getB xs i
 ·rfl
 ·have:=(Za7 h).2.2 i hg;omega
theorem ZgG{M:Nat}{k:Int}{V:List (List Nat)}(hf:Fit M V)(hv:∀v∈V,Zaj k v=true):(ZaW V).length≤k.toNat∧((ZaW V).length=k.toNat→∀i,i<k.toNat→Ech.Sp (V.map val) (2^i)):=by
 have hb:=ZdJ hf
 have hlt:∀b∈Ech.basis (V.map val),b<2^k.toNat:=fun b hb=>by
  refine ZBH (B:=V.map val) (fun x hx=>?_) ((Ech.sp_basis _ _).1 (.of_mem hb))
  obtain⟨v,hv',rfl⟩:=List.mem_map.1 hx
  exact Zui (hf v hv').1 (hv v hv')
 obtain⟨h1,h2⟩:=ZwT (Ech.red_basis (V.map val)) hlt
 have hl:=congrArg List.length hb
 rw[List.length_map]at hl
 rw[hl]
 exact⟨h1,fun e i hi=>(Ech.sp_basis _ _).1 (.of_mem (h2 e i hi))⟩
def zC:List Nat×ByteArray:=([],ByteArray.empty)
def vecsC(L:List (List Nat×ByteArray)):List (List Nat):=L.map Prod.fst
def atC(L:List (List Nat×ByteArray))(ps:List Nat):List (List Nat×ByteArray):=ps.map fun i=>L.getD i zC
def Zcv(L:List (List Nat×ByteArray)):List (List Nat×ByteArray):=atC L (keepL (vecsC L) L.length)
def Zdy(L:List (List Nat×ByteArray))(ps:List Nat):List ByteArray:=ps.map fun i=>(L.getD i zC).2
def blockC(k:Int)(L:List (List Nat×ByteArray))(b:Nat):ByteArray:=st (sumL (Zdy (Zcv L) (exL (vecsC (Zcv L)) (unitL k (b:Int)))))
def okC(k:Int)(L:List (List Nat×ByteArray)):Bool:=decide (0<sizeOfK k)&&decide (k≤((keepL (vecsC L) L.length).length:Int))
def solveC(k:Int)(L:List (List Nat×ByteArray)):List ByteArray:=if okC k L=true then(List.range k.toNat).map (blockC k L)else []
theorem Zco(L:List (List Nat×ByteArray)):(vecsC L).length=L.length:=by simp[vecsC]
theorem ZkN(L:List (List Nat×ByteArray))(i:Nat):(vecsC L).getD i []=(L.getD i zC).1:=by
 unfold vecsC
 rw[List.getD_eq_getElem?_getD,List.getElem?_map,List.getD_eq_getElem?_getD]
 cases L[i]? <;>rfl
theorem Zhx(L:List (List Nat×ByteArray)):vecsC (Zcv L)=ZhT (vecsC L):=by
 unfold Zcv atC ZhT ZcE
 rw[Zco]
 unfold vecsC
 rw[List.map_map]
 refine List.map_congr_left fun i _=>?_
 show(L.getD i zC).1=_
 exact(ZkN L i).symm
theorem Zhg(L:List (List Nat×ByteArray)):(Zcv L).length=(keepL (vecsC L) L.length).length:=by simp[Zcv,atC]
theorem Zol{x:List Nat×ByteArray}(h:x∈Zcv L):x∈L:=by
 obtain⟨i,hi,rfl⟩:=List.mem_map.1 h
 have hl:=ZfY (vecsC L) _ i hi
 rw[List.getD_eq_getElem?_getD,List.getElem?_eq_getElem hl]
 exact List.getElem_mem hl
def FitC(M:Nat)(L:List (List Nat×ByteArray)):Prop:=Fit M (vecsC L)
theorem FitC.kept{M:Nat}(h:FitC M L):FitC M (Zcv L):=by
 unfold FitC
 rw[Zhx]
 exact ZqE h _
theorem Zs9(f:Nat→Nat)(a b:List Nat):∀n,ofN f (xorL a b) n=ofN f a n^^^ofN f b n
 |0=>by simp[ofN]
 |n+1=>by
  unfold ofN
  rw[ZmS,Zs9 f a b n]
  cases getB a n<;>cases getB b n
  ·simp
  ·simp[Nat.xor_assoc]
  ·simp only[Bool.xor_false,if_true,Bool.false_eq_true,if_false]
   rw[Nat.xor_assoc,Nat.xor_comm (ofN f b n),←Nat.xor_assoc]
  ·simp only[Bool.xor_self,if_true,Bool.false_eq_true,if_false]
   rw[Nat.xor_assoc,Nat.xor_comm (f n),Nat.xor_assoc,Nat.xor_self,Nat.xor_zero]
theorem Zsu(f:Nat→Nat):∀n,ofN f [] n=0
 |0=>rfl
 |n+1=>by
  unfold ofN
  rw[Zbn [] n (by simp),Zsu f n];rfl
def Zpt(ss:List ByteArray)(m:Nat)(x:List Nat×ByteArray):Prop:=ZbZ ss x.1 x.2=true∧x.2.size=m
theorem Zm6{ss:List ByteArray}{m:Nat}{L:List (List Nat×ByteArray)}(j:Nat):∀(ps:List Nat) (a x:List Nat),(∀i∈ps,Zpt ss m (L.getD i zC))→a.getD j 0=ofN (fun b=>(tx (ss.getD b ByteArray.empty)).getD j 0) x ss.length→
  ((Zdy L ps).foldl (fun a s=>xorL a (tx s)) a).getD j 0=ofN (fun b=>(tx (ss.getD b ByteArray.empty)).getD j 0) (ps.foldl (fun x i=>xorL x ((vecsC L).getD i [])) x) ss.length
 |[],a,x,_,h=>h
 |i::ps,a,x,hp,h=>by
  unfold Zdy
  rw[List.map_cons,List.foldl_cons,List.foldl_cons]
  refine Zm6 j ps _ _ (fun q hq=>hp q (List.mem_cons_of_mem _ hq)) ?_
  rw[Zau,Zs9,h,ZkN,(ZbX.1 (hp i List.mem_cons_self).1).1 j]
theorem ZnB{ss:List ByteArray}{m:Nat}{L:List (List Nat×ByteArray)}:∀(ps:List Nat) (a:List Nat),(∀i∈ps,Zpt ss m (L.getD i zC))→a.length=m∨(a.length≤m∧ps≠ [])→((Zdy L ps).foldl (fun a s=>xorL a (tx s)) a).length=m
 |[],a,_,h=>by
  rcases h with h|h
  ·exact h
  ·exact absurd rfl h.2
 |i::ps,a,hp,h=>by
  unfold Zdy
  rw[List.map_cons,List.foldl_cons]
  refine ZnB ps _ (fun q hq=>hp q (List.mem_cons_of_mem _ hq)) (.inl ?_)
  have:=(hp i List.mem_cons_self).2
  rw[Zae,Zaa,this]
  rcases h with h|h<;>omega
theorem ZsT{ps:List Nat}{b:Nat}(hp:∀i∈ps,Zpt ss m (L.getD i zC))(hs:smalls (sumV (vecsC L) ps))(hv:val (sumV (vecsC L) ps)=2^b)(hb:b<ss.length)(hm:(ss.getD b ByteArray.empty).size=m):
  st (sumL (Zdy L ps))=ss.getD b ByteArray.empty:=by
 apply ZhO
 rw[Zdl (ZoO _)]
 have hne:ps≠ []:=by
  rintro rfl
  have h0:val (sumV (vecsC L) [])=0:=by simp[sumV,val]
  rw[h0]at hv
  have:=Nat.two_pow_pos b
  omega
 have hlen:(sumL (Zdy L ps)).length=m:=ZnB ps [] hp (.inr ⟨Nat.zero_le _,hne⟩)
 refine Za1 (by rw[hlen,Zaa,hm]) fun j _=>?_
 have h1:=Zm6 (ss:=ss) (m:=m) (L:=L) j ps [] [] hp (by rw[Zsu];rfl)
 have h2:∀i,getB (sumV (vecsC L) ps) i=decide (i=b):=fun i=>by
  rw[←ZaN hs,hv,Nat.testBit_two_pow]
  by_cases e:i=b
  ·simp[e]
  ·rw[decide_eq_false e,decide_eq_false (fun h=>e h.symm)]
 have h3:=ZiX (f:=fun b=>(tx (ss.getD b ByteArray.empty)).getD j 0) h2 ss.length
 rw[if_pos hb]at h3
 exact h1.trans h3
theorem Ztp{rs:List (List Nat)}(xs:List Nat)(hf:Fit 1048576 rs)(hn:rs.length≤100000)(hx:smalls xs){c:Nat}(hc:Choice rs xs c):∀i∈exprL rs xs,i<rs.length:=by
 rw[ZeE hf hn hx hc]
 exact Zkt (Nat.le_refl _)
theorem Zqg(hz:0<sizeOfK (ss.length:Int))(hf:FitC 1048576 L)(hn:L.length≤100000)(hv:∀x∈L,Zaj (ss.length:Int) x.1=true)(ht:∀x∈L,Zpt ss m x)(hm:∀b,b<ss.length→(ss.getD b ByteArray.empty).size=m)
  (hr:(ZaW (vecsC L)).length=ss.length) {b:Nat} (hb:b<ss.length):blockC (ss.length:Int) L b=ss.getD b ByteArray.empty:=by
 have hbk:((b:Nat):Int)<(ss.length:Int):=by omega
 have hu:val (unitL (ss.length:Int) (b:Int))=2^b:=ZhJ (ZaI hbk) (Zde hz hbk)
 have hul:(unitL (ss.length:Int) (b:Int)).length≤1048576:=by rw[Zea hbk];have:=Zas (ss.length:Int);omega
 have hsp:Ech.Sp ((vecsC (Zcv L)).map val) (val (unitL (ss.length:Int) (b:Int))):=by
  rw[Zhx,Zju hf,hu]
  have hvv:∀v∈vecsC L,Zaj (ss.length:Int) v=true:=fun v hv'=>by
   obtain⟨x,hx,rfl⟩:=List.mem_map.1 hv'
   exact hv x hx
  exact(ZgG hf hvv).2 (by rw[Int.toNat_natCast];exact hr) b (by rw[Int.toNat_natCast];exact hb)
 have hfk:=hf.kept
 have hkn:(vecsC (Zcv L)).length≤100000:=by
  rw[Zco,Zhg]
  have:=ZbR (vecsC L) L.length
  omega
 obtain⟨c,hc⟩:=Zkn hfk hsp
 have hyes:firstI (reduceL (broughtL (vecsC (Zcv L))) (unitL (ss.length:Int) (b:Int)))<0:=(ZdY hfk (ZaI hbk) hul).2 hsp
 have hex:exL (vecsC (Zcv L)) (unitL (ss.length:Int) (b:Int))=exprL (vecsC (Zcv L)) (unitL (ss.length:Int) (b:Int)):=by unfold exL;rw[if_pos hyes]
 unfold blockC
 rw[hex]
 have hch:=ZeE hfk hkn (ZaI hbk) hc
 refine ZsT (fun i hi=>?_) (ZkH hfk _).1 ?_ hb (hm b hb)
 ·have hlt:=Ztp _ hfk hkn (ZaI hbk) hc i hi
  rw[Zco]at hlt
  rw[List.getD_eq_getElem?_getD,List.getElem?_eq_getElem hlt]
  exact ht _ (Zol (List.getElem_mem hlt))
 ·rw[hch,←hu]
  exact hc.sum hfk
theorem Zo7(hz:0<sizeOfK (ss.length:Int))(hf:FitC 1048576 L)(hn:L.length≤100000)(hv:∀x∈L,Zaj (ss.length:Int) x.1=true)(ht:∀x∈L,Zpt ss m x)(hm:∀b,b<ss.length→(ss.getD b ByteArray.empty).size=m):
  okC (ss.length:Int) L=decide ((ZaW (vecsC L)).length=ss.length)∧((ZaW (vecsC L)).length=ss.length→solveC (ss.length:Int) L=ss)∧((ZaW (vecsC L)).length≠ss.length→solveC (ss.length:Int) L=[]):=by
 have hvv:∀v∈vecsC L,Zaj (ss.length:Int) v=true:=fun v hv'=>by
  obtain⟨x,hx,rfl⟩:=List.mem_map.1 hv'
  exact hv x hx
 have hle:=(ZgG hf hvv).1
 rw[Int.toNat_natCast]at hle
 have hkr:(keepL (vecsC L) L.length).length=(ZaW (vecsC L)).length:=by rw[←Zco];exact Ze6 hf
 have hok:okC (ss.length:Int) L=decide ((ZaW (vecsC L)).length=ss.length):=by
  unfold okC
  rw[decide_eq_true hz,Bool.true_and,hkr]
  exact decide_eq_decide.2 (by omega)
 refine⟨hok,fun e=>?_,fun e=>?_⟩
 ·unfold solveC
  rw[hok,if_pos (decide_eq_true e),Int.toNat_natCast]
  refine List.ext_getElem (by simp) fun i h1 h2=>?_
  rw[List.getElem_map,List.getElem_range,Zqg hz hf hn hv ht hm e h2,List.getD_eq_getElem?_getD,List.getElem?_eq_getElem h2]
  rfl
 ·unfold solveC
  rw[hok,if_neg (by simp[e])]
def filT(ss:List ByteArray)(k:Nat):List ByteArray:=ss.take k++List.replicate (ss.length-k) ByteArray.empty
theorem Zln(ss:List ByteArray):filT ss 0=List.replicate ss.length ByteArray.empty:=by simp[filT]
theorem ZmX(ss:List ByteArray):filT ss ss.length=ss:=by simp[filT]
theorem ZhL(ss:List ByteArray)(k:Nat)(hk:k≤ss.length):(filT ss k).length=ss.length:=by simp[filT];omega
theorem Zlv(ss:List ByteArray)(k:Nat)(hk:k<ss.length):(filT ss k).set k (ss.getD k ByteArray.empty)=filT ss (k+1):=by
 unfold filT
 have hl:(ss.take k).length=k:=by simp;omega
 rw[List.set_append_right _ _ (by omega),hl,Nat.sub_self,List.take_succ_eq_append_getElem hk,List.append_assoc,show ss.length-k=(ss.length-(k+1))+1 by omega,List.replicate_succ,List.set_cons_zero]
 simp[List.getD_eq_getElem?_getD,List.getElem?_eq_getElem hk]
def ZbV(us:List RV):List ByteArray:=us.map fun r=>r.s
theorem Zcl(us:List RV):(ZbV us).length=us.length:=by simp[ZbV]
theorem ZoU(us:List RV)(k:Nat)(hk:k<us.length):(ZbV us).getD k ByteArray.empty=(us.getD k .dflt).s:=by
 unfold ZbV
 rw[List.getD_eq_getElem?_getD,List.getElem?_map,List.getElem?_eq_getElem hk,List.getD_eq_getElem?_getD,List.getElem?_eq_getElem hk]
 rfl
theorem Zmx{us:List RV}(h:shortR us):shorts (ZbV us):=fun s hs=>by
 obtain⟨r,hr,rfl⟩:=List.mem_map.1 hs
 obtain⟨i,hi,rfl⟩:=List.mem_iff_getElem.1 hr
 have:=(h i).2
 rw[List.getD_eq_getElem?_getD,List.getElem?_eq_getElem hi]at this
 simp only[Option.getD_some]at this
 omega
theorem Zkr{ts:List RV}(h:shortR ts)(ps:List Nat):shortR (atR ts ps):=fun i=>by
 by_cases hi:i<ps.length
 ·rw[Zsn ts ps i hi];exact h _
 ·rw[List.getD_eq_getElem?_getD,List.getElem?_eq_none (by rw[Zdb];omega)]
  exact Ze0 0
theorem Zws(a:Option Addr)(n c:Nat)(ts:List RV)(ap:Option Addr)(np cp:Nat)(ps:List Nat)(w:World)(h:RowsAt w a n ts)(hr:RowsIn w ts)(hs:shortR ts)(hp:IntsAt w ap np ps)(hl:∀i∈ps,i<n)(hn:n≤1048576)(hnp:np≤1048576):
  Calls Tryz.prog 242 #[.slice a n c,.slice ap np cp] w fun e w'=>e=.returned (.string (st (sumL (ZbV (atR ts ps)))))∧Below w.heap.size w w':=by
 obtain rfl:=hp.1
 have hmk:=ZfO ps.length hnp
 have hM:=ZcN w ps.length hnp (filT (ZbV (atR ts ps)) 0) (by rw[Zln,Zcl,Zdb])
 have hBM:Below w.heap.size w (w.alloc (.cells (madeCells #[.string ByteArray.empty] ps.length) 9)):=(Below.refl _ _).alloc (Nat.le_refl _) _
 have hsz:(w.alloc (.cells (madeCells #[.string ByteArray.empty] ps.length) 9)).heap.size=w.heap.size+1:=Zab _ _
 have HAT:=hide (Zx7 a n c ts ap ps.length cp ps _ (h.below hBM) (hp.below hBM) hl hn hnp)
 have HUL:Hid ((atR ts ps).length=ps.length):=hide (Zdb ts ps)
 have HSH:=hide (Zmx (Zkr hs ps))
 have HM:=hide hM
 have HBM:=hide hBM
 have HSZ:=hide hsz
 clear h hp hl hr hs hM hBM hsz
 generalize atR ts ps=us at*
 go_enter Tryz.func242,Tryz.ntmps242
 go_wp2_with fail
 refine(unhide HAT).mono ?_
 rintro e w1 ⟨v1,rfl,ho1,hb1⟩
 obtain⟨a1,c1,rfl⟩:=ho1.shape
 rw[unhide HSZ]at ho1
 rw[unhide HUL]at ho1⊢
 have HO1:=hide ho1
 have HM1:=hide ((unhide HM).below hb1)
 have HB1:=hide (below0 (unhide HBM) hb1)
 clear ho1 hb1 HAT HM HBM
 go_wp2
 go_loopw [15] (fun i wr=> ∃k:Nat,k≤ps.length∧i=.int .i64 k∧Hid (OwnT wr w.heap.size (.slice (some ⟨w.heap.size,0,none⟩) ps.length ps.length) (filT (ZbV us) k))∧Hid (OwnS wr (w.heap.size+1) (.slice a1 ps.length c1) us)∧Hid (Below w.heap.size w wr)) (fun i _=>ps.length-(intOf i).toNat)
 case atStart=>exact⟨0,Nat.zero_le _,rfl,HM1,HO1,HB1⟩
 case round=>
  obtain⟨k,hk,rfl,HI,HO,HB⟩:=hrel
  clear HM1 HO1 HB1
  have HUL':=unhide HUL
  by_cases hlt:k<ps.length
  ·have hO:=unhide HO
   obtain⟨g,rfl⟩:∃g,a1=some ⟨g,0,none⟩:=by
    rcases hO.2 with⟨e,h0⟩|⟨g,cap,cur,e,_⟩
    ·omega
    ·simp only[Value.slice.injEq]at e;exact⟨g,e.1⟩
   have hcg:=Zbv us k (by omega)
   have hc0:=hO.cellAt hcg.1
   have hc1:=hO.cellAt hcg.2
   have hlt':(k:Int)<(ps.length:Int):=by omega
   have hS:=Zlv (ZbV us) k (by rw[Zcl];omega)
   rw[ZoU us k (by omega)]at hS
   generalize us.getD k .dflt=r at*
   have hb1:Below wr.heap.size wr (wr.alloc (.cells #[.slice r.a r.n r.c,.string r.s] 57)):=(Below.refl _ _).alloc (Nat.le_refl _) _
   have hI:=(unhide HI).below hb1
   have hfl:(filT (ZbV us) k).length=ps.length:=by rw[ZhL _ _ (by rw[Zcl];omega),Zcl,HUL']
   obtain⟨g2,cap2,e2,_,_,hcg2,hfg2⟩:=hI.at (by omega)
   simp only[Value.slice.injEq,Option.some.injEq,Addr.mk.injEq,and_true]at e2
   obtain⟨rfl, -, -⟩:=e2
   have hcell:=hcg2 k (by omega)
   have hfz:=hfg2 k
   have hs2:=hI.stored k r.s
   rw[hS]at hs2
   have hB2:=(below0 (unhide HB) hb1).setCell (p:=⟨w.heap.size,k,none⟩) (Nat.le_refl _) (.string r.s)
   have hO2:=(hO.below hb1).keptB (Zad _ w.heap.size k (.string r.s)) (by omega)
   obtain⟨hx0,hx1⟩:=ZcM wr (.slice r.a r.n r.c) (.string r.s)
   have HS:=hide hs2
   have HB2:=hide hB2
   have HO2:=hide hO2
   clear hcg hI hs2 hB2 hb1 hS HI HB HO hO hO2 hfl hcg2 hfg2
   generalize (filT (ZbV us) k).getD k ByteArray.empty=z at*
   go_wp2
   go_roundw
   case rel=>exact⟨k+1,by omega,by go_num,HS,HO2,HB2⟩
   case measure=>simp[intOf];omega
  ·obtain rfl:k=ps.length:=by omega
   rw[show filT (ZbV us) ps.length=ZbV us by rw[←HUL',←Zcl us];exact ZmX _]at HI
   obtain⟨a2,c2,e2,hT⟩:=(unhide HI).texts
   rw[Zcl,HUL']at e2 hT
   simp only[Value.slice.injEq]at e2
   obtain⟨rfl, -,rfl⟩:=e2
   have HSU:=hide (Ztl _ ps.length ps.length (ZbV us) wr hT (unhide HSH) hnp)
   clear hT HI HO
   go_wp2_with (go_at_call 289;refine(unhide HSU).mono ?_;rintro e w2 ⟨rfl,hb2⟩;have HB2:=hide (below0 (unhide HB) hb2);clear hb2)
   go_ret
   exact⟨rfl,unhide HB2⟩
end Go.Proofs.YtlhhinlghhjghaaGreatDoor
