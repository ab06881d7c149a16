/-
  Contract of peel.begin.
  Contract of (*peeling).next: whatever the order of the map.
-/
import Derived.Test.YtlhhinlghhjghaaGreatDoorU5
namespace Go.Proofs.YtlhhinlghhjghaaGreatDoor
open Go.RowKit Go.Sort
set_option linter.unusedVariables false
set_option linter.unusedSimpArgs false
set_option maxRecDepth 4000
set_option maxHeartbeats 8000000
variable {D:DataW Value}{k:Int}{bs:List ByteArray}{kn:List Nat}{rs:List RV}{left:Lit→Bool}{B sz K n c r first p:Nat}{S:Nat→Bool}{cs:Nat→List Nat}{f:Nat→Nat×Nat}{a:Option Addr}{v:PV}{w wr w2 w3:World}
theorem ZsZ(w:World)(n:Nat)(hn:n≤1048576):
  Own (w.alloc (.cells (madeCells #[.int .u64 0] n) 69)) w.heap.size (.slice (some ⟨w.heap.size,0,none⟩) n n) (List.replicate n 0):=by
 refine⟨Zdr n,by simp[cellsU],.inr ⟨w.heap.size,n,madeCells #[.int .u64 0] n,by simp,Nat.le_refl _,heap_alloc_new w _,by simp,by unfold maxLen;omega,by simp[size_madeCells],?_⟩⟩
 rw[toList_madeCells_one,List.take_of_length_le (by simp)]
 simp[cellsU]
theorem ZBd(n:Nat)(hn:n≤1048576)(wx:World):(Instr.makeSlice 32 (.int .i64 (n:Int)) (.int .i64 (n:Int))).run Tryz.prog wx=.ok (.slice (some ⟨wx.heap.size,0,none⟩) n n) (wx.alloc (.cells (madeCells #[.int .u64 0] n) 69)):=by
 obtain⟨i0,hi0,hz0,hzs,hzb⟩:=info_parts ZeL
 have:=run_make (P:=Tryz.prog) wx 32 69 i0 (.int .u64 0) Tryz.underlying32 hi0 hz0 .i64 .i64 (n:Int) (n:Int) (by omega) (Int.le_refl _) (by rw[hzb];omega) (by omega)
 rw[hzs]at this
 simpa [Value.cells]using this
def PS(w:World)(B:Nat)(v:PV)(sz:Nat)(S:Nat→Bool)(f:Nat→Nat×Nat)(cs:Nat→List Nat)(kn:List Nat)(bs:List ByteArray):Prop:=
 PlAt w B v kn bs∧(∃D,w.ownsMap Tryz.prog 3 slElem v.bm v.n D∧RdAs D S (slv sz f))∧Lf w B sz S f cs∧(∀p,S p=true→p<v.n∧(f p).1≠v.kg)∧B≤v.bm
theorem PS.below{w':World}(h:PS w B v sz S f cs kn bs)(hb:Below w.heap.size w w'):PS w' B v sz S f cs kn bs:=by
 obtain⟨h1,⟨D,h2,h3⟩,h4,h5,h6⟩:=h
 exact⟨h1.below hb,⟨D,h2.kept (Zai hb none) (by simp),h3⟩,h4.below hb,h5,h6⟩
def Zcs(k:Int)(rs:List RV)(m p:Nat):Bool:=decide (p<m)&&Zaj k (rs.getD p .dflt).xs
def BgS(w wr:World)(k:Int)(rs:List RV)(m:Nat)(f:Nat→Nat×Nat)(D:DataW Value):Prop:=
 wr.ownsMap Tryz.prog 3 slElem w.heap.size m D∧RdAs D (Zcs k rs m) (slv (sizeOfK k) f)∧Lf wr w.heap.size (sizeOfK k) (Zcs k rs m) f (fun p=>(rs.getD p .dflt).xs)∧Below w.heap.size w wr
theorem BgS.no{m:Nat}(h:BgS w wr k rs m f D)(hb:Below wr.heap.size wr w2)(hv:Zaj k (rs.getD m .dflt).xs=false):BgS w w2 k rs (m+1) f D:=by
 obtain⟨h1,h2,h3,h4⟩:=h
 have e:∀p,Zcs k rs m p=Zcs k rs (m+1) p:=fun p=>by
  unfold Zcs
  by_cases hp:p=m
  ·subst hp;rw[hv];simp
  ·have:(p<m+1)=(p<m):=propext (by omega)
   simp only[this]
 have e':Zcs k rs m=Zcs k rs (m+1):=funext e
 rw[e']at h2 h3
 exact⟨(h1.kept (Zai hb none) (by simp)).mono (Nat.le_succ _),h2,h3.below hb,below0 h4 hb⟩
theorem BgS.yes{m:Nat}{g2 c2:Nat}(h:BgS w wr k rs m f D)(hb:Below wr.heap.size wr w2)(hv:Zaj k (rs.getD m .dflt).xs=true)
  (ho:Own w2 wr.heap.size (.slice (some ⟨g2,0,none⟩) (sizeOfK k) c2) (rs.getD m .dflt).xs) (hm:w3.ownsMap Tryz.prog 3 slElem w.heap.size (m+1) (D.put (.int .i64 (m:Int)) (.held (.slice (some ⟨g2,0,none⟩) (sizeOfK k) c2)))) (hg:w2.grownBy w3 (some w.heap.size)):
  BgS w w3 k rs (m+1) (fun q=>if q=m then(g2,c2)else f q) (D.put (.int .i64 (m:Int)) (.held (.slice (some ⟨g2,0,none⟩) (sizeOfK k) c2))):=by
 obtain⟨h1,h2,h3,h4⟩:=h
 have e:∀p,(decide (p=m)||Zcs k rs m p)=Zcs k rs (m+1) p:=fun p=>by
  unfold Zcs
  by_cases hp:p=m
  ·subst hp;rw[hv];simp
  ·have:(p<m+1)=(p<m):=propext (by omega)
   simp only[this,hp,decide_false,Bool.false_or]
 have hlt:=h1.lt
 have hnew:∀p,Zcs k rs m p=true→(f p).1<wr.heap.size:=fun p hp=>((h3.own p hp).1.lt (k:=(f p).1) rfl).2
 have hg2:=ho.lt (k:=g2) rfl
 have hgm:w2.ownsMap Tryz.prog 3 slElem w.heap.size m D:=h1.kept (Zai hb none) (by simp)
 refine⟨hm,(h2.put h1.isMap (p:=m) _).congr e (fun p hp=>?_),⟨fun p hp=>?_,fun p q hp hq hne=>?_⟩,?_⟩
 ·by_cases hpm:p=m
  ·subst hpm;simp[slv]
  ·simp[slv,hpm]
 ·rw[←e]at hp
  by_cases hpm:p=m
  ·subst hpm
   simp only[if_true]
   refine⟨(ho.mono (by have:=h4.size;omega)).kept hg (.inr fun e=>?_),(Za7 hv).2.1⟩
   exact ZdO ho hgm (by simpa [Value.ownBlock]using e)
  ·have hp':Zcs k rs m p=true:=by simpa [hpm]using hp
   simp only[hpm,if_false]
   refine⟨((h3.own p hp').1.below hb).kept hg (.inr fun e=>?_),(h3.own p hp').2⟩
   exact ZdO ((h3.own p hp').1.below hb) hgm (by simpa [Value.ownBlock]using e)
 ·rw[←e]at hp hq
  by_cases hpm:p=m
  ·by_cases hqm:q=m
   ·exact absurd (hpm.trans hqm.symm) hne
   ·have:=hnew q (by simpa [hqm]using hq)
    simp only[hpm,hqm,if_true,if_false]
    omega
  ·have hp':Zcs k rs m p=true:=by simpa [hpm]using hp
   have:=hnew p hp'
   by_cases hqm:q=m
   ·simp only[hpm,hqm,if_true,if_false]
    omega
   ·simp only[hpm,hqm,if_false]
    exact h3.two p q hp' (by simpa [hqm]using hq) hne
 ·exact(below0 h4 hb).trans (Zat hg (Nat.le_trans h4.size hb.size) fun j hj=>by cases hj;exact Nat.le_refl _)
theorem BgS.done{w1:World}{kg bg g:Nat}(h:BgS w wr k rs n f D)(h1:Below wr.heap.size wr w1)(h3:Below w1.heap.size w1 w3)
  (hk:Own w3 wr.heap.size (.slice (some ⟨kg,0,none⟩) (sizeOfK k) (sizeOfK k)) (List.replicate (sizeOfK k) 0)) (hbk:OwnT w3 wr.heap.size (.slice (some ⟨bg,0,none⟩) K K) (List.replicate K ByteArray.empty))
  (hx:w3.heap[g]? =some (.cells #[.slice a n c,.slice (some ⟨kg,0,none⟩) (sizeOfK k) (sizeOfK k),.slice (some ⟨bg,0,none⟩) K K,.map (some w.heap.size)] 395 (0,0))):
  PS w3 w.heap.size ⟨g,a,n,c,kg,sizeOfK k,bg,K,w.heap.size⟩ (sizeOfK k) (Zcs k rs n) f (fun p=>(rs.getD p .dflt).xs) (List.replicate (sizeOfK k) 0) (List.replicate K ByteArray.empty)∧Below w.heap.size w w3:=by
 obtain⟨m1,m2,m3,m4⟩:=h
 have hb:=below0 h1 h3
 refine⟨⟨⟨by simpa using hx,by simpa using hk.mono m4.size,by simpa using hbk.mono m4.size⟩,⟨D,m1.kept (Zai hb none) (by simp),m2⟩,m3.below hb,fun p hp=>⟨?_,fun e=>?_⟩,Nat.le_refl _⟩,below0 m4 hb⟩
 ·have:(decide (p<n)&&Zaj k (rs.getD p .dflt).xs)=true:=hp
  simp only[Bool.and_eq_true,decide_eq_true_eq]at this
  exact this.1
 ·have h1:=((m3.own p hp).1.lt (k:=(f p).1) rfl).2
  have h2:=(hk.lt (k:=kg) rfl).1
  simp only at e
  omega
theorem Zb3(w:World)(o:Obj):Below w.heap.size w (w.alloc o):=(Below.refl _ _).alloc (Nat.le_refl _) _
theorem BgS.endA(h:BgS w wr k rs n f D)(hK:K≤128):
  PS (((wr.drew.alloc (.cells (madeCells #[.int .u64 0] (sizeOfK k)) 69)).alloc (.cells (madeCells #[.string ByteArray.empty] K) 9)).alloc (.cells #[.slice a n c,.slice (some ⟨wr.heap.size,0,none⟩) (sizeOfK k) (sizeOfK k),.slice (some ⟨wr.heap.size+1,0,none⟩) K K,.map (some w.heap.size)] 395)) w.heap.size
   ⟨wr.heap.size+1+1,a,n,c,wr.heap.size,sizeOfK k,wr.heap.size+1,K,w.heap.size⟩ (sizeOfK k) (Zcs k rs n) f (fun p=>(rs.getD p .dflt).xs) (List.replicate (sizeOfK k) 0) (List.replicate K ByteArray.empty)∧
  Below w.heap.size w (((wr.drew.alloc (.cells (madeCells #[.int .u64 0] (sizeOfK k)) 69)).alloc (.cells (madeCells #[.string ByteArray.empty] K) 9)).alloc (.cells #[.slice a n c,.slice (some ⟨wr.heap.size,0,none⟩) (sizeOfK k) (sizeOfK k),.slice (some ⟨wr.heap.size+1,0,none⟩) K K,.map (some w.heap.size)] 395)):=by
 have hz:=Zas k
 have o1:=ZsZ wr.drew (sizeOfK k) (by omega)
 have o2:=ZcN (wr.drew.alloc (.cells (madeCells #[.int .u64 0] (sizeOfK k)) 69)) K (by omega) _ rfl
 rw[Zab]at o2
 refine h.done (w1:=wr.drew) ((Below.refl _ _).drew) ?_ ?_ ?_ ?_
 ·exact below0 (below0 (Zb3 _ _) (Zb3 _ _)) (Zb3 _ _)
 ·exact(o1.below (Zb3 _ _)).below (Zb3 _ _)
 ·exact(o2.below (Zb3 _ _)).mono (by show wr.heap.size≤wr.heap.size+1;omega)
 ·have:=heap_alloc_new ((wr.drew.alloc (.cells (madeCells #[.int .u64 0] (sizeOfK k)) 69)).alloc (.cells (madeCells #[.string ByteArray.empty] K) 9)) (.cells #[.slice a n c,.slice (some ⟨wr.heap.size,0,none⟩) (sizeOfK k) (sizeOfK k),.slice (some ⟨wr.heap.size+1,0,none⟩) K K,.map (some w.heap.size)] 395)
  rw[Zab,Zab]at this
  exact this
theorem BgS.endB(h:BgS w wr k rs n f D)(hK:K≤128):
  PS (((wr.drew.alloc (.cells (madeCells #[.string ByteArray.empty] K) 9)).alloc (.cells (madeCells #[.int .u64 0] (sizeOfK k)) 69)).alloc (.cells #[.slice a n c,.slice (some ⟨wr.heap.size+1,0,none⟩) (sizeOfK k) (sizeOfK k),.slice (some ⟨wr.heap.size,0,none⟩) K K,.map (some w.heap.size)] 395)) w.heap.size
   ⟨wr.heap.size+1+1,a,n,c,wr.heap.size+1,sizeOfK k,wr.heap.size,K,w.heap.size⟩ (sizeOfK k) (Zcs k rs n) f (fun p=>(rs.getD p .dflt).xs) (List.replicate (sizeOfK k) 0) (List.replicate K ByteArray.empty)∧
  Below w.heap.size w (((wr.drew.alloc (.cells (madeCells #[.string ByteArray.empty] K) 9)).alloc (.cells (madeCells #[.int .u64 0] (sizeOfK k)) 69)).alloc (.cells #[.slice a n c,.slice (some ⟨wr.heap.size+1,0,none⟩) (sizeOfK k) (sizeOfK k),.slice (some ⟨wr.heap.size,0,none⟩) K K,.map (some w.heap.size)] 395)):=by
 have hz:=Zas k
 have o1:=ZcN wr.drew K (by omega) _ rfl
 have o2:=ZsZ (wr.drew.alloc (.cells (madeCells #[.string ByteArray.empty] K) 9)) (sizeOfK k) (by omega)
 rw[Zab]at o2
 refine h.done (w1:=wr.drew) ((Below.refl _ _).drew) ?_ ?_ ?_ ?_
 ·exact below0 (below0 (Zb3 _ _) (Zb3 _ _)) (Zb3 _ _)
 ·exact(o2.below (Zb3 _ _)).mono (by show wr.heap.size≤wr.heap.size+1;omega)
 ·exact(o1.below (Zb3 _ _)).below (Zb3 _ _)
 ·have:=heap_alloc_new ((wr.drew.alloc (.cells (madeCells #[.string ByteArray.empty] K) 9)).alloc (.cells (madeCells #[.int .u64 0] (sizeOfK k)) 69)) (.cells #[.slice a n c,.slice (some ⟨wr.heap.size+1,0,none⟩) (sizeOfK k) (sizeOfK k),.slice (some ⟨wr.heap.size,0,none⟩) K K,.map (some w.heap.size)] 395)
  rw[Zab,Zab]at this
  exact this
theorem Zsf(K:Nat)(a:Option Addr)(n c:Nat)(rs:List RV)(w:World)(hsz:0<sizeOfK (K:Int))(h:RowsAt w a n rs)(hs:shortR rs)(hn:n≤1048576):
  Calls Tryz.prog 276 #[.int .i64 (K:Int),.slice a n c] w fun e w'=> ∃g kg bg f,e=.returned (.pointer (some ⟨g,0,none⟩))∧
   PS w' w.heap.size ⟨g,a,n,c,kg,sizeOfK (K:Int),bg,K,w.heap.size⟩ (sizeOfK (K:Int)) (Zcs (K:Int) rs n) f (fun p=>(rs.getD p .dflt).xs) (List.replicate (sizeOfK (K:Int)) 0) (List.replicate K ByteArray.empty)∧Below w.heap.size w w':=by
 obtain rfl:=h.1
 have hroom:=ZaC hsz
 have hK:K≤128:=by omega
 have hz2:=Zas (K:Int)
 have hmm:= @run_makeMap Tryz.prog
 have Hh:=hide h
 have Hs:=hide hs
 have HZ:=hide (Zcd (K:Int))
 have HMU:=hide (ZBd (sizeOfK (K:Int)) (by omega))
 have HMT:=hide (ZfO K (by omega))
 have HOU:=hide (fun wx=>ZsZ wx (sizeOfK (K:Int)) (by omega))
 have HOT:=hide (fun wx=>ZcN wx K (by omega) _ rfl)
 have HBG:Hid (BgS w (w.alloc (.map #[] 0)) (K:Int) rs 0 (fun _=>(0,0)) (.map [])):=hide ⟨World.ownsMap_made _ _ _ _,(RdAs.empty (slv 0 fun _=>(0,0))).congr (fun p=>by simp[Zcs]) (fun p hp=>by cases hp),⟨fun p hp=>by simp[Zcs]at hp,fun p q hp=>by simp[Zcs]at hp⟩,(Below.refl _ _).alloc (Nat.le_refl _) _⟩
 clear h hs hsz hroom
 have HSZ:Hid (∀xs,Zaj (K:Int) xs=true→xs.length=sizeOfK (K:Int)):=hide fun xs hx=>(Za7 hx).2.1
 go_enter Tryz.func276,Tryz.ntmps276
 go_wp2
 go_loopw [11] (fun i wr=> ∃k:Nat,∃f:Nat→Nat×Nat,∃D:DataW Value,k≤rs.length∧i=.int .i64 k∧Hid (BgS w wr (K:Int) rs k f D)) (fun i _=>rs.length-(intOf i).toNat)
 case atStart=>exact⟨0,_,_,Nat.zero_le _,rfl,HBG⟩
 case round=>
  obtain⟨k,f,D,hk,rfl,HB⟩:=hrel
  clear HBG
  by_cases hlt:k<rs.length
  ·have hB:=unhide HB
   have hR:=(unhide Hh).below hB.2.2.2
   obtain⟨b,off,rfl,hcl⟩:=hR.at hlt
   obtain⟨hc0,hc1⟩:=hcl k hlt
   have hrow:=hR.2.1 k hlt
   have hlt':(k:Int)<(rs.length:Int):=by omega
   have hsh:=(unhide Hs) k
   have HNO:=hide (fun w2 hb hv=>hB.no (w2:=w2) hb hv)
   have HYE:=hide (fun(w2 w3:World) (g2 c2:Nat) hb hv ho hm hg=>hB.yes (w2:=w2) (w3:=w3) (g2:=g2) (c2:=c2) hb hv ho hm hg)
   generalize rs.getD k .dflt=r at*
   have hb1:Below wr.heap.size wr (wr.alloc (.cells #[.slice r.a r.n r.c,.string r.s] 57)):=(Below.refl _ _).alloc (Nat.le_refl _) _
   have hr1:=hrow.below hb1
   have HV:=hide (Zff r.a r.n r.c r.xs (K:Int) _ hr1)
   have hbx:=ZcM wr (.slice r.a r.n r.c) (.string r.s)
   have HBX:=hide (fun w2 (hb:Below (wr.alloc (.cells #[.slice r.a r.n r.c,.string r.s] 57)).heap.size (wr.alloc (.cells #[.slice r.a r.n r.c,.string r.s] 57)) w2)=>(hbx.below hb).1)
   have HCL:=hide (fun w2 (hb:Below (wr.alloc (.cells #[.slice r.a r.n r.c,.string r.s] 57)).heap.size (wr.alloc (.cells #[.slice r.a r.n r.c,.string r.s] 57)) w2)=>ZbE r.a r.n r.c r.xs w2 (hr1.below hb) (by omega))
   have HB1:=hide hb1
   have HMP:=hide hB.1
   clear hB hR hcl hrow hr1 hb1 hbx
   cases hv:Zaj (K:Int) r.xs
   ·have HN2:=hide (fun w2 hb=>unhide HNO w2 hb hv)
    clear HNO HYE HBX HCL
    go_wp2_with (go_at_call 180;refine(unhide HV).mono ?_;rintro e w2 ⟨he,hb2⟩;obtain rfl:=retV he;rw[hv];have HB2:=hide hb2;clear hb2 he)
    go_roundw
    case rel=>exact⟨k+1,f,D,by omega,by go_num,hide (unhide HN2 w2 (below0 (unhide HB1) (unhide HB2)))⟩
    case measure=>simp[intOf];omega
   ·have hl:=hide (unhide HSZ r.xs hv)
    have hpos:Hid (0<r.xs.length):=hide (Zbq.1 hv).1
    have HY2:=hide (fun(w3 w4:World) (g2 c2:Nat) (hb:Below wr.heap.size wr w3) ho hm hg=>unhide HYE w3 w4 g2 c2 hb hv ho hm hg)
    clear HNO HYE HB
    go_wp2_with (first|(go_at_call 180;refine(unhide HV).mono ?_;rintro e w2 ⟨he,hb2⟩;obtain rfl:=retV he;rw[hv];have hx:=unhide HBX w2 hb2;have HC:=hide (unhide HCL w2 hb2);have HB0:=hide (below0 (unhide HB1) hb2);clear hb2 he)|(go_at_call 236;refine(unhide HC).mono ?_;rintro e w3 ⟨v3,rfl,ho3,hb3⟩;obtain⟨g3,c3,hv3,hBg,hgs,_,_⟩:=ho3.at (unhide hpos);rw[unhide hl]at hv3;subst hv3;have HO3:=hide ho3;have HB3:=hide (below0 (unhide HB0) hb3);clear ho3 hb3 hBg hgs)|(at_mapUpdate;refine wpList_mapUpdate_own _ rfl (.tmp 20) (.tmp 21) (.tmp 24) 393 rfl 3 32 lawI Tryz.underlying393 slElem w.heap.size k D rfl ((unhide HMP).kept (Zai (unhide HB3) none) (by simp)) (by unfold maxLen;omega) (.int .i64 (k:Int)) (.slice (some ⟨g3,0,none⟩) (sizeOfK (K:Int)) c3) (.int .i64 (k:Int)) rfl rfl (key_nat (by omega)) (.held (.slice (some ⟨g3,0,none⟩) (sizeOfK (K:Int)) c3)) [] rfl ?_;intro w4 hm4 hg4;have HM4:=hide hm4;have HG4:=hide hg4;clear hm4 hg4))
    go_roundw
    case rel=>exact⟨k+1,_,_,by omega,by go_num,hide (unhide HY2 w3 w4 g3 c3 (unhide HB3) ((unhide HO3).mono (unhide HB0).size) (unhide HM4) (unhide HG4))⟩
    case measure=>simp[intOf];omega
  ·have hke:k=rs.length:=by omega
   subst hke
   have hmu:=unhide HMU
   have hmt:=unhide HMT
   clear HMU HMT Hh Hs HSZ
   go_wp2_with fail
   go_region_held (fun _=>True) (go_keep) (first|(go_at_call 177;refine(unhide HZ _).mono ?_;rintro e w' ⟨rfl,rfl⟩))
   all_goals go_wp2
   all_goals go_ret
   all_goals first|exact⟨_,_,_,f,rfl,(unhide HB).endA hK⟩|exact⟨_,_,_,f,rfl,(unhide HB).endB hK⟩
def stS(S:Nat→Bool)(cs:Nat→List Nat)(kn:List Nat)(left:Lit→Bool)(p:Nat):Bool:=S p&&(left (.int .i64 (p:Int))|| !decide (cnt (dropL (cs p) kn)=0))
def stC(cs:Nat→List Nat)(kn:List Nat)(left:Lit→Bool)(p:Nat):List Nat:=if left (.int .i64 (p:Int))=true then cs p else dropL (cs p) kn
def Fst(S:Nat→Bool)(cs:Nat→List Nat)(kn:List Nat)(left:Lit→Bool)(N first:Nat):Prop:=
 first≤N∧(first<N→S first=true∧left (.int .i64 (first:Int))=false∧cnt (dropL (cs first) kn)=1)∧∀p:Nat,S p=true→left (.int .i64 (p:Int))=false→cnt (dropL (cs p) kn)=1→first≤p
def lessP(left:Lit→Bool)(p:Nat):Lit→Bool:=fun z=>left z&& !z.sameKey (.int .i64 (p:Int))
theorem Zce(left:Lit→Bool)(p q:Nat):lessP left p (.int .i64 (q:Int))=(left (.int .i64 (q:Int))&& !decide (q=p)):=by
 unfold lessP;rw[Zxn]
def NxS(w wr:World)(B:Nat)(v:PV)(sz:Nat)(S:Nat→Bool)(f:Nat→Nat×Nat)(cs:Nat→List Nat)(kn:List Nat)(bs:List ByteArray)(r:Nat)(left:Lit→Bool)(c first:Nat)(D:DataW Value):Prop:=
 PlAt wr B v kn bs∧wr.ranges Tryz.prog 3 slElem v.bm r v.n D left c∧RdAs D (stS S cs kn left) (slv sz f)∧Lf wr B sz (stS S cs kn left) f (stC cs kn left)∧Fst S cs kn left v.n first∧Below B w wr∧B≤r
theorem NxS.start{w0:World}(h1:PlAt w B v kn bs)(hR:RdAs D S (slv sz f))(hL:Lf w B sz S f cs)
  (hrg:w0.ranges Tryz.prog 3 slElem v.bm w.heap.size v.n D (Maps.has D) (Maps.size D)) (hg:w.grownBy w0 none) (hB:B≤w.heap.size):NxS w w0 B v sz S f cs kn bs w.heap.size (Maps.has D) (Maps.size D) v.n D:=by
 have hb:Below w.heap.size w w0:=Zat hg (Nat.le_refl _) (fun k hk=>by cases hk)
 have e:∀p,stS S cs kn (Maps.has D) p=S p:=fun p=>by unfold stS;rw[hR.has];cases S p<;>simp
 have e':stS S cs kn (Maps.has D)=S:=funext e
 refine⟨h1.below hb,hrg,by rw[e'];exact hR,?_,⟨Nat.le_refl _,fun h=>absurd h (Nat.lt_irrefl _),fun p hp hl=>?_⟩,hb.mono hB,hB⟩
 ·rw[e']
  refine⟨fun p hp=>?_,hL.two⟩
  unfold stC
  rw[hR.has,if_pos hp]
  exact⟨((hL.below hb).own p hp).1,(hL.own p hp).2⟩
 ·rw[hR.has,hp]at hl;cases hl
def NxP(w w2:World)(B:Nat)(v:PV)(sz:Nat)(S:Nat→Bool)(f:Nat→Nat×Nat)(cs:Nat→List Nat)(kn:List Nat)(bs:List ByteArray)(r:Nat)(left:Lit→Bool)(c first:Nat)(D:DataW Value)(p:Nat):Prop:=
 PlAt w2 B v kn bs∧w2.ranges Tryz.prog 3 slElem v.bm r v.n D (lessP left p) c∧RdAs D (stS S cs kn left) (slv sz f)∧Lf w2 B sz (stS S cs kn left) f (stC cs kn (lessP left p))∧Fst S cs kn left v.n first∧Below B w w2∧B≤r
theorem NxS.step{w1:World}{c1:Nat}{gp cp:Nat}(h:NxS w wr B v sz S f cs kn bs r left c first D)
  (hst:∀p,S p=true→p<v.n∧(f p).1≠v.kg) (hf:f p=(gp,cp)) (hp:stS S cs kn left p=true) (hl:left (.int .i64 (p:Int))=true) (hrg:w1.ranges Tryz.prog 3 slElem v.bm r v.n D (lessP left p) c1) (hg:wr.grownBy w1 (some r)) (hBw:B≤w.heap.size):
  Own w1 B (.slice (some ⟨gp,0,none⟩) sz cp) (cs p)∧(cs p).length=sz∧PlAt w1 B v kn bs∧v.kg≠gp∧p<v.n∧S p=true∧
  ∀w2,w1.grownBy w2 (some gp)→Own w2 B (.slice (some ⟨gp,0,none⟩) sz cp) (dropL (cs p) kn)→NxP w w2 B v sz S f cs kn bs r left c1 first D p:=by
 obtain⟨h1,h2,h3,h4,h5,h6,h7⟩:=h
 have hSp:S p=true:=by unfold stS at hp;rw[Bool.and_eq_true]at hp;exact hp.1
 have hiter:∀cur t m,wr.heap[r]? ≠some (.cells cur t m):=by
  obtain⟨es,clock,since,seen,c0,_,_,_,_,hr,_⟩:=h2
  intro cur t m e
  rw[hr]at e
  cases e
 have o0:=(h4.own p hp).1
 have hlen:=(h4.own p hp).2
 unfold stC at o0 hlen
 rw[if_pos hl]at o0 hlen
 rw[hf]at o0
 have hri:=Zfv o0 h2
 have o1:=o0.kept hg (.inr fun e=>hri (by simpa [Value.ownBlock]using e))
 have p1:=h1.nocells hg hiter
 have hkg:v.kg≠gp:=fun e=>(hst p hSp).2 (by rw[hf];exact e.symm)
 have hL1:Lf w1 B sz (stS S cs kn left) f (stC cs kn left):=h4.kept hg (fun q hq=>Zfv (h4.own q hq).1 h2)
 refine⟨o1,hlen,p1,hkg,(hst p hSp).1,hSp,fun w2 hg2 o2=>?_⟩
 have hm1:gp≠v.bm:=ZdO o1 hrg.owns
 have hr1:gp≠r:=Zfv o1 hrg
 refine⟨p1.row hg2 o1 hkg,hrg.kept hg2 (fun e=>hm1 (by simpa using e.symm)) (fun e=>hr1 (by simpa using e.symm)),h3,⟨fun q hq=>?_,h4.two⟩,h5,(h6.trans (Zat hg (Nat.le_trans hBw h6.size) fun j hj=>by cases hj;exact h7)).trans (Zat hg2 (Nat.le_trans hBw (Nat.le_trans h6.size hg.size)) fun j hj=>by cases hj;exact(o1.lt (k:=gp) rfl).1),h7⟩
 by_cases e:q=p
 ·subst e
  unfold stC
  rw[Zce,if_neg (by simp),hf]
  exact⟨o2,by rw[ZbB];exact hlen⟩
 ·have hne:(f q).1≠gp:=by have:=h4.two q p hq hp e;rw[hf]at this;exact this
  have:=hL1.own q hq
  unfold stC at this⊢
  rw[Zce,show(left (.int .i64 (q:Int))&& !decide (q=p))=left (.int .i64 (q:Int)) by simp[e]]
  exact⟨this.1.kept hg2 (.inr fun e=>hne (by simpa [Value.ownBlock]using e)),this.2⟩
theorem Fst.more{N:Nat}(h:Fst S cs kn left N first)(hp:p<N)(hS:S p=true):Fst S cs kn (lessP left p) N (if cnt (dropL (cs p) kn)=1 then min first p else first):=by
 obtain⟨h1,h2,h3⟩:=h
 by_cases hc:cnt (dropL (cs p) kn)=1
 ·rw[if_pos hc]
  refine⟨by omega,fun hlt=>?_,fun q hq hl hcq=>?_⟩
  ·by_cases hm:first<p
   ·rw[show min first p=first by omega]at hlt⊢
    obtain⟨a,b,c⟩:=h2 hlt
    exact⟨a,by rw[Zce,b];rfl,c⟩
   ·rw[show min first p=p by omega]
    exact⟨hS,by rw[Zce];simp,hc⟩
  ·rw[Zce]at hl
   by_cases e:q=p
   ·omega
   ·have:=h3 q hq (by simpa [e]using hl) hcq
    omega
 ·rw[if_neg hc]
  refine⟨h1,fun hlt=>?_,fun q hq hl hcq=>?_⟩
  ·obtain⟨a,b,c⟩:=h2 hlt
   exact⟨a,by rw[Zce,b];rfl,c⟩
  ·rw[Zce]at hl
   by_cases e:q=p
   ·subst e;exact absurd hcq hc
   ·exact h3 q hq (by simpa [e]using hl) hcq
theorem NxP.stay(h:NxP w w2 B v sz S f cs kn bs r left c first D p)
  (hp:p<v.n) (hS:S p=true) (hc:¬cnt (dropL (cs p) kn)=0):NxS w w2 B v sz S f cs kn bs r (lessP left p) c (if cnt (dropL (cs p) kn)=1 then min first p else first) D:=by
 obtain⟨h1,h2,h3,h4,h5,h6,h7⟩:=h
 have e:stS S cs kn left=stS S cs kn (lessP left p):=by
  funext q
  unfold stS
  rw[Zce]
  by_cases e:q=p
  ·subst e;simp[hc]
  ·simp[e]
 rw[e]at h3 h4
 exact⟨h1,h2,h3,h4,h5.more hp hS,h6,h7⟩
theorem NxP.gone{c3:Nat}(h:NxP w w2 B v sz S f cs kn bs r left c first D p)
  (hp:p<v.n) (hS:S p=true) (hc:cnt (dropL (cs p) kn)=0) (hrg:w3.ranges Tryz.prog 3 slElem v.bm r v.n (D.del (.int .i64 (p:Int))) (lessP left p) c3) (ht:w2.mapTurned w3 v.bm) (hBm:B≤v.bm) (hBw:B≤w.heap.size):
  NxS w w3 B v sz S f cs kn bs r (lessP left p) c3 first (D.del (.int .i64 (p:Int))):=by
 obtain⟨h1,h2,h3,h4,h5,h6,h7⟩:=h
 have hg:=ht.grown
 have e:∀q,(stS S cs kn left q&& !decide (q=p))=stS S cs kn (lessP left p) q:=fun q=>by
  unfold stS
  rw[Zce]
  by_cases e:q=p
  ·subst e;simp[hc]
  ·simp[e]
 have hnm:∀cur t m,w2.heap[v.bm]? ≠some (.cells cur t m):=by
  obtain⟨es,clock,hb,_⟩:=h2.owns
  intro cur t m e
  rw[hb]at e
  cases e
 have hfm:=h5.more hp hS
 rw[if_neg (by omega)]at hfm
 have hL3:=h4.kept hg (fun q hq=>ZdO (h4.own q hq).1 h2.owns)
 refine⟨h1.nocells hg hnm,hrg,(h3.del p).congr e (fun _ _=>rfl),⟨fun q hq=>?_,fun q q' hq hq'=>?_⟩,hfm,h6.trans (Zat hg (Nat.le_trans hBw h6.size) fun j hj=>by cases hj;exact hBm),h7⟩
 ·rw[←e,Bool.and_eq_true]at hq
  exact hL3.own q hq.1
 ·rw[←e,Bool.and_eq_true]at hq hq'
  exact hL3.two q q' hq.1 hq'.1
def Zdn(S:Nat→Bool)(cs:Nat→List Nat)(kn:List Nat)(p:Nat):Bool:=S p&& !decide (cnt (dropL (cs p) kn)=0)
theorem NxS.done(h:NxS w wr B v sz S f cs kn bs r left c first D)(hl:∀kl,left kl=false)
  (hst:∀p,S p=true→p<v.n∧(f p).1≠v.kg) (hBm:B≤v.bm):
  PS wr B v sz (Zdn S cs kn) f (fun p=>dropL (cs p) kn) kn bs∧Below B w wr∧first≤v.n∧(first<v.n→S first=true∧cnt (dropL (cs first) kn)=1)∧∀p,S p=true→cnt (dropL (cs p) kn)=1→first≤p:=by
 obtain⟨h1,h2,h3,h4,h5,h6,h7⟩:=h
 have e:stS S cs kn left=Zdn S cs kn:=by funext q;unfold stS Zdn;rw[hl];simp
 have e2:stC cs kn left=fun p=>dropL (cs p) kn:=by funext q;unfold stC;rw[hl];simp
 rw[e]at h3 h4
 rw[e2]at h4
 refine⟨⟨h1,⟨D,h2.owns,h3⟩,h4,fun p hp=>?_,hBm⟩,h6,h5.1,fun hlt=>⟨(h5.2.1 hlt).1,(h5.2.1 hlt).2.2⟩,fun p hp hc=>h5.2.2 p hp (hl _) hc⟩
 unfold Zdn at hp
 rw[Bool.and_eq_true]at hp
 exact hst p hp.1
theorem Zxv(B:Nat)(v:PV)(sz:Nat)(S:Nat→Bool)(f:Nat→Nat×Nat)(cs:Nat→List Nat)(kn:List Nat)(bs:List ByteArray)(w:World)(h:PS w B v sz S f cs kn bs)(hB:B≤w.heap.size)(hz:sz≤1048576)(hkl:kn.length≤1048576)(hn:v.n≤1048576):
  Calls Tryz.prog 277 #[.pointer (some ⟨v.g,0,none⟩)] w fun e w'=> ∃first:Nat,e=.returned (.tuple #[.int .i64 (first:Int),.bool (decide (first<v.n))])∧PS w' B v sz (Zdn S cs kn) f (fun p=>dropL (cs p) kn) kn bs∧Below B w w'∧
   first≤v.n∧(first<v.n→S first=true∧cnt (dropL (cs first) kn)=1)∧∀p,S p=true→cnt (dropL (cs p) kn)=1→first≤p:=by
 obtain⟨h1,⟨D0,h2,h3⟩,h4,h5,h6⟩:=h
 obtain⟨x0,x1,x2,x3⟩:=h1.cells
 have HST:=hide h5
 have HSTART:=hide (fun w0 hrg hg=>NxS.start (w0:=w0) h1 h3 h4 hrg hg hB)
 have H2:=hide h2
 clear h1 h2 h3 h4 h5
 go_enter Tryz.func277,Tryz.ntmps277
 go_wp2_with (first|(at_range;refine wpList_range_own _ rfl _ 393 rfl 3 32 lawI Tryz.underlying393 slElem v.bm v.n D0 rfl (unhide H2) ?_;intro w0 hrg0 hg0 hs0;have HN0:=hide (unhide HSTART w0 hrg0 hg0);clear hrg0 hg0 hs0 HSTART H2))
 go_frame
 go_loopw [5] (fun i wr=> ∃(first c:Nat) (left:Lit→Bool) (D:DataW Value),i=.int .i64 (first:Int)∧first≤1048576∧Hid (NxS w wr B v sz S f cs kn bs w.heap.size left c first D)) (fun _ wr=>wr.rangeLeft v.bm w.heap.size)
 case atStart=>exact⟨_,_,_,_,rfl,hn,HN0⟩
 case round=>
  obtain⟨first,c,left,D,rfl,hfn,HN⟩:=hrel
  clear HN0 x0 x1 x2 x3
  have hrgm:=hide (unhide HN).2.1.left_eq
  go_wp2_with (first|(at_next;refine ZhY rfl _ rfl v.bm w.heap.size v.n sz D left c (stS S cs kn left) f (unhide HN).2.2.1 rfl (unhide HN).2.1 ?_ ?_))
  ·intro hl
   have HD:=hide ((unhide HN).done hl (unhide HST) h6)
   clear HN hl HST hrgm
   go_wp2
   go_ret2
   exact⟨first,by simp,unhide HD⟩
  ·intro p gp cp w1 c1 hf hp hl hrg1 hlt hg1 hen
   obtain⟨o1,hlen,p1,hkg,hpn,hSp,hNP⟩:=(unhide HN).step (unhide HST) hf hp hl hrg1 hg1 hB
   have HDR:=Zu6 B (some ⟨gp,0,none⟩) cp (cs p) (some ⟨v.kg,0,none⟩) kn.length v.kc kn w1 (by rw[hlen];exact o1) p1.known.at'.2 (.inr fun ad e=>by cases e;simp[Value.ownBlock,hkg]) (by omega) hkl
   rw[hlen]at HDR
   have HD1:=hide HDR
   have HC:=hide (fun w2 (ho:Own w2 B (.slice (some ⟨gp,0,none⟩) sz cp) (dropL (cs p) kn))=>Zbt (some ⟨gp,0,none⟩) sz cp (dropL (cs p) kn) w2 (by have:=ho.at';rw[this.1];exact this.2) hz)
   have HP:=hide hNP
   obtain⟨-,y1, -, -⟩:=p1.cells
   clear HDR hNP p1 o1 hlen hrg1 hl hp hf hg1 HN
   rcases Nat.lt_trichotomy (cnt (dropL (cs p) kn)) 1 with h0|h0|h0
   ·have hc0:cnt (dropL (cs p) kn)=0:=by omega
    rw[hc0]at HC
    have HG:=hide (fun w2 w3 c3 (hnp:NxP w w2 B v sz S f cs kn bs w.heap.size left c1 first D p) hrg ht=>hnp.gone (w3:=w3) (c3:=c3) hpn hSp hc0 hrg ht h6 hB)
    clear h0 hc0
    go_wp2_with (first|(go_at_call 309;refine(unhide HD1).mono ?_;rintro e w2 ⟨rfl,ho2,hg2⟩;have HC2:=hide (unhide HC w2 ho2);have HNP:=hide (unhide HP w2 hg2 ho2);obtain⟨z0,z1,z2,z3⟩:=(unhide HNP).1.cells;clear ho2 hg2)|(go_at_call 181;refine(unhide HC2).mono ?_;rintro e w9 ⟨rfl,hw9⟩;obtain rfl:=hw9.symm;clear hw9)|(at_delete;refine wpList_delete_ranges _ rfl _ _ 393 3 rfl 32 lawI Tryz.underlying393 slElem v.bm w.heap.size v.n D (lessP left p) c1 rfl (unhide HNP).2.1 (.int .i64 (p:Int)) (.int .i64 (p:Int)) rfl (key_nat (by omega)) ?_;intro w3 c3 hrg3 hle ht3;rw[show(fun z=>lessP left p z&& !z.sameKey (.int .i64 (p:Int)))=lessP left p from Maps.strike_twice left _]at hrg3;have HN3:=hide (unhide HG w2 w3 c3 (unhide HNP) hrg3 ht3);clear hrg3 ht3;go_frame))
    go_roundw
    case rel=>exact⟨first,c3,_,_,rfl,hfn,HN3⟩
    case measure=>rw[(unhide HN3).2.1.left_eq,unhide hrgm];omega
   ·rw[h0]at HC
    have HG:=hide (fun w2 (hnp:NxP w w2 B v sz S f cs kn bs w.heap.size left c1 first D p)=>hnp.stay hpn hSp (by omega))
    rw[h0,if_pos rfl]at HG
    have hmin:=fun wx ts t=>Zex first p ts t wx
    obtain⟨mn,hmn⟩:∃mn,mn=min first p:=⟨_,rfl⟩
    rw[←hmn]at hmin HG
    have hmn':mn≤1048576:=by omega
    clear h0 hmn
    go_wp2_with (first|(go_at_call 309;refine(unhide HD1).mono ?_;rintro e w2 ⟨rfl,ho2,hg2⟩;have HC2:=hide (unhide HC w2 ho2);have HNP:=hide (unhide HP w2 hg2 ho2);clear ho2 hg2)|(go_at_call 181;refine(unhide HC2).mono ?_;rintro e w9 ⟨rfl,hw9⟩;obtain rfl:=hw9.symm;clear hw9))
    go_roundw
    case rel=>exact⟨mn,c1,_,_,rfl,hmn',hide (unhide HG w2 (unhide HNP))⟩
    case measure=>rw[(unhide HNP).2.1.left_eq,unhide hrgm];omega
   ·have HG:=hide (fun w2 (hnp:NxP w w2 B v sz S f cs kn bs w.heap.size left c1 first D p)=>hnp.stay hpn hSp (by omega))
    rw[if_neg (by omega)]at HG
    have hne0:((cnt (dropL (cs p) kn):Int)==0)=false:=by rw[beq_eq_false_iff_ne];omega
    have hne1:((cnt (dropL (cs p) kn):Int)==1)=false:=by rw[beq_eq_false_iff_ne];omega
    clear h0
    generalize cnt (dropL (cs p) kn)=cr at*
    go_wp2_with (first|(go_at_call 309;refine(unhide HD1).mono ?_;rintro e w2 ⟨rfl,ho2,hg2⟩;have HC2:=hide (unhide HC w2 ho2);have HNP:=hide (unhide HP w2 hg2 ho2);clear ho2 hg2)|(go_at_call 181;refine(unhide HC2).mono ?_;rintro e w9 ⟨rfl,hw9⟩;obtain rfl:=hw9.symm;clear hw9))
    go_roundw
    case rel=>exact⟨first,c1,_,_,rfl,hfn,hide (unhide HG w2 (unhide HNP))⟩
    case measure=>rw[(unhide HNP).2.1.left_eq,unhide hrgm];omega
end Go.Proofs.YtlhhinlghhjghaaGreatDoor
