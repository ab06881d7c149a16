/-
  Plain mathematics of the decoder: peeling hangs on rows' bits and texts alone; rows of full rank tell all blocks, each of the rows' size; what a put makes of a decoder (dput, dputE), and what always holds of it (DInv). No condition.
  The decoder in memory ('DcAt'): its block, its store, what it is at. No condition.
  Plain mathematics of a source: the row of chosen blocks (rowL), the degree (degN), the packet's row (evecL) and text (ofL). No condition.
  Contracts of split.Plan and bucketlineref09.Plan: for every two ints. Of bucketlineref02.Texts: for every two slices of texts.
-/
import Derived.Test.YtlhhinlghhjghaaGreatDoorU32
import Derived.Test.YtlhhinlghhjghaaGreatDoorU14
import Derived.Test.YtlhhinlghhjghaaGreatDoorU15
import Derived.Test.YtlhhinlghhjghaaGreatDoorU8
import Derived.Test.YtlhhinlghhjghaaGreatDoorU13
import Derived.Test.YtlhhinlghhjghaaGreatDoorU2
import Derived.Test.YtlhhinlghhjghaaGreatDoorU24
import Derived.Test.YtlhhinlghhjghaaGreatDoorU4
import Derived.Deep.QuietTactic
import Derived.BigQuiet
namespace Go.Proofs.YtlhhinlghhjghaaGreatDoor
open Go.RowKit Go.Sort
set_option linter.unusedVariables false
set_option linter.unusedSimpArgs false
set_option maxRecDepth 4000
set_option maxHeartbeats 8000000
variable {M:Int}{x:List Nat×ByteArray}{rs:List RV}{m g B gs gs1:Nat}{p:PKV}{v v1:Value}{w w' w1:World}
def ObjP(k l:Int)(L:List (List Nat×ByteArray))(ob:ByteArray):Prop:=∃rs kn bs,rs.map core=L∧PeelP k rs kn bs∧ob=st ((joinL (solveC k (peelC k rs kn bs))).take l.toNat)
theorem ObjP.size{k l:Int}{L:List (List Nat×ByteArray)}{a:ByteArray}(h:ObjP k l L a):a.size≤l.toNat:=by
 obtain⟨rs,kn,bs,_,_,rfl⟩:=h
 rw[Zb1]
 exact List.length_take_le _ _
theorem Zie{m:Nat}:∀{ss:List ByteArray},(∀s∈ss,s.size=m)→(joinL ss).length=ss.length*m
 |[],_=>by simp[joinL]
 |s::ss,h=>by
  have h1:=Zie (ss:=ss) fun t ht=>h t (List.mem_cons_of_mem _ ht)
  have h2:=h s List.mem_cons_self
  unfold joinL at*
  rw[List.flatMap_cons,List.length_append,h1,Zaa,h2,List.length_cons,Nat.add_mul,Nat.one_mul,Nat.add_comm]
theorem Zny{m:Nat}{L:List (List Nat×ByteArray)}:∀(ps:List Nat) (a:List Nat),(∀i∈ps,(L.getD i zC).2.size=m)→a.length=m∨(a.length≤m∧ps≠ [])→((Zdy L ps).foldl (fun a s=>xorL a (tx s)) a).length=m
 |[],a,_,h=>by
  rcases h with h|h
  ·exact h
  ·exact absurd rfl h.2
 |i::ps,a,hp,h=>by
  unfold Zdy
  rw[List.map_cons,List.foldl_cons]
  refine Zny ps _ (fun q hq=>hp q (List.mem_cons_of_mem _ hq)) (.inl ?_)
  have:=hp i List.mem_cons_self
  rw[Zae,Zaa,this]
  rcases h with h|h<;>omega
theorem ZpI{K:Nat}{L:List (List Nat×ByteArray)}(hz:0<sizeOfK (K:Int))(hf:FitC 1048576 L)(hn:L.length≤100000)(hv:∀x∈L,Zaj (K:Int) x.1=true)(hm:∀x∈L,x.2.size=m)
  (hr:(ZaW (vecsC L)).length=K) {b:Nat} (hb:b<K):(blockC (K:Int) L b).size=m:=by
 have hbk:((b:Nat):Int)<(K:Int):=by omega
 have hu:val (unitL (K:Int) (b:Int))=2^b:=ZhJ (ZaI hbk) (Zde hz hbk)
 have hul:(unitL (K:Int) (b:Int)).length≤1048576:=by rw[Zea hbk];have:=Zas (K:Int);omega
 have hsp:Ech.Sp ((vecsC (Zcv L)).map val) (val (unitL (K:Int) (b:Int))):=by
  rw[Zhx,Zju hf,hu]
  have hvv:∀v∈vecsC L,Zaj (K:Int) v=true:=fun v hv'=>by
   obtain⟨x,hx,rfl⟩:=List.mem_map.1 hv'
   exact hv x hx
  exact(ZgG hf hvv).2 (by rw[Int.toNat_natCast];exact hr) b (by rw[Int.toNat_natCast];exact hb)
 have hfk:=hf.kept
 have hkn:(vecsC (Zcv L)).length≤100000:=by
  rw[Zco,Zhg]
  have:=ZbR (vecsC L) L.length
  omega
 obtain⟨c,hc⟩:=Zkn hfk hsp
 have hyes:firstI (reduceL (broughtL (vecsC (Zcv L))) (unitL (K:Int) (b:Int)))<0:=(ZdY hfk (ZaI hbk) hul).2 hsp
 have hex:exL (vecsC (Zcv L)) (unitL (K:Int) (b:Int))=exprL (vecsC (Zcv L)) (unitL (K:Int) (b:Int)):=by unfold exL;rw[if_pos hyes]
 unfold blockC
 rw[hex,Zb1]
 have hch:=ZeE hfk hkn (ZaI hbk) hc
 have hsum:val (sumV (vecsC (Zcv L)) (exprL (vecsC (Zcv L)) (unitL (K:Int) (b:Int))))=2^b:=by
  rw[hch,←hu]
  exact hc.sum hfk
 have hlt:=Ztp _ hfk hkn (ZaI hbk) hc
 refine Zny _ [] (fun i hi=>?_) (.inr ⟨Nat.zero_le _,fun hne=>?_⟩)
 ·have hlt:=hlt i hi
  rw[Zco]at hlt
  rw[List.getD_eq_getElem?_getD,List.getElem?_eq_getElem hlt]
  exact hm _ (Zol (List.getElem_mem hlt))
 ·rw[hne]at hsum
  have h0:val (sumV (vecsC (Zcv L)) [])=0:=by simp[sumV,val]
  rw[h0]at hsum
  have:=Nat.two_pow_pos b
  omega
theorem Zra{K:Nat}{kn:List Nat}{bs:List ByteArray}(hP:PeelP (K:Int) rs kn bs)(hg:Good rs)(hl:∀r∈rs,r.xs.length≤10)(hn:rs.length≤300)(hz:0<sizeOfK (K:Int))(hv:∀r∈rs,Zaj (K:Int) r.xs=true)(hm:∀r∈rs,r.s.size=m)(hk:ZcB (rs.map core)=K):
  okC (K:Int) (peelC (K:Int) rs kn bs)=true∧(solveC (K:Int) (peelC (K:Int) rs kn bs)).length=K∧∀s∈solveC (K:Int) (peelC (K:Int) rs kn bs),s.size=m:=by
 have hval:=ZiI hP hg
 have hz2:=Zas (K:Int)
 have hroom:=ZaC hz
 obtain⟨j,hK⟩:=hP.kn hg hz
 have hf:FitC 1048576 (peelC (K:Int) rs kn bs):=fun v hv=>by
  obtain⟨x,hx,rfl⟩:=List.mem_map.1 hv
  refine⟨?_,by have:=(Za7 (hval x hx)).2.1;omega⟩
  unfold peelC at hx
  rcases List.mem_append.1 hx with hx|hx
  ·obtain⟨b,hb,_,rfl⟩:=ZcC hK hx
   exact ZaI (by omega)
  ·unfold restL at hx
   obtain⟨r,hr,rfl⟩:=List.mem_map.1 hx
   exact Za4 (hg r (List.mem_filter.1 hr).1).1 _
 have hln:(peelC (K:Int) rs kn bs).length≤100000:=by
  unfold peelC toldTo restL
  rw[List.length_append,List.length_map,List.length_map]
  have h1:=List.length_filter_le (fun b=>getB kn b) (List.range (K:Int).toNat)
  have h2:=List.length_filter_le (Zgk (K:Int) kn) rs
  rw[List.length_range]at h1
  omega
 have hfr:Fit 1048576 (vecsL rs):=by
  have:=Zec hg hl (fun _=>true)
  rwa[List.filter_eq_self.2 (fun _ _=>rfl)]at this
 have hfl:(rs.filter fun r=>Zaj (K:Int) r.xs)=rs:=List.filter_eq_self.2 hv
 have hr:(ZaW (vecsC (peelC (K:Int) rs kn bs))).length=K:=by
  have h1:(ZaW (vecsC (peelC (K:Int) rs kn bs))).length=Zi4 (K:Int) rs:=Zt6 hf (Zec hg hl _) (ZkY hP hg)
  rw[h1]
  unfold Zi4
  rw[hfl,←Ze6 hfr,Zdq,←hk,←Zd4]
  rfl
 have hkr:(keepL (vecsC (peelC (K:Int) rs kn bs)) (peelC (K:Int) rs kn bs).length).length=K:=by
  have:=Ze6 hf
  rw[Zco]at this
  exact this.trans hr
 have hok:okC (K:Int) (peelC (K:Int) rs kn bs)=true:=by
  unfold okC
  rw[decide_eq_true hz,Bool.true_and,hkr]
  exact decide_eq_true (Int.le_refl _)
 obtain⟨⟨jj,hjj⟩,_⟩:=id hP
 obtain⟨s1,s2⟩:=Zg6 hz hg hm hjj
 have hms:∀x∈peelC (K:Int) rs kn bs,x.2.size=m:=fun x hx=>by
  unfold peelC at hx
  rcases List.mem_append.1 hx with hx|hx
  ·obtain⟨b,hb,hgb,rfl⟩:=ZcC hK hx
   exact s1 b hgb
  ·unfold restL at hx
   obtain⟨r,hr,rfl⟩:=List.mem_map.1 hx
   exact ZgH s2 (hm r (List.mem_filter.1 hr).1)
 have hs:solveC (K:Int) (peelC (K:Int) rs kn bs)=(List.range K).map (blockC (K:Int) (peelC (K:Int) rs kn bs)):=by
  unfold solveC
  rw[if_pos hok,Int.toNat_natCast]
 refine⟨hok,by rw[hs,List.length_map,List.length_range],fun s hsm=>?_⟩
 rw[hs]at hsm
 obtain⟨b,hb,rfl⟩:=List.mem_map.1 hsm
 exact ZpI hz hf hln hval hms hr (List.mem_range.1 hb)
structure DS where
 bg:Bool
 o:Int
 l:Int
 k:Int
 z:Int
 L:List (List Nat×ByteArray)
 ov:Bool
 dn:Bool
 ob:ByteArray
def zDS:DS:=⟨false,0,0,0,0,[],false,false,⟨#[]⟩⟩
def okB(p:PKV):Bool:=decide (((1≤p.k∧p.k≤128)∧1≤p.z∧p.z≤64)∧(0≤p.o∧p.o≤4294967295)∧(0≤p.l∧p.l≤p.k*p.z)∧0≤p.h∧p.h≤15)&&fitB p.k p.z (p.r.xs,p.r.s)
theorem Zxx{k z:Int}:fitB k z x=true↔Zh3 k z x.1 x.2.size:=by
 unfold fitB Zh3
 rw[Bool.and_eq_true,Bool.and_eq_true,Zbq,decide_eq_true_iff,decide_eq_true_iff,and_assoc]
theorem Zrg:okB p=true↔ZaX p.o p.l p.k p.z p.h p.r.xs p.r.s.size:=by
 unfold okB ZaX
 rw[Bool.and_eq_true,decide_eq_true_iff,Zxx]
 rfl
theorem Zyi(p:PKV):CkP (if okB p=true then 0 else 1) (ZaX p.o p.l p.k p.z p.h p.r.xs p.r.s.size):=by
 by_cases h:okB p=true
 ·rw[if_pos h];exact .inl ⟨Zrg.1 h,rfl⟩
 ·rw[if_neg h];exact .inr ⟨fun hc=>h (Zrg.2 hc),rfl⟩
def Zk2(s:DS)(p:PKV):Bool:=decide (p.o=s.o∧p.l=s.l∧p.k=s.k∧p.z=s.z)
def admB(s:DS)(p:PKV):Bool:=okB p&&(!s.bg||Zk2 s p)
def begS(s:DS)(p:PKV):DS:=if s.bg=true then s else⟨true,p.o,p.l,p.k,p.z,[],false,false,⟨#[]⟩⟩
def newlyB(M:Int)(s:DS)(x:List Nat×ByteArray):Bool:= !s.dn&&(decide (s.L.length<capN M)&&decide ((ZcB (s.L++[x]):Int)=s.k))
def ZfV(M:Int)(s:DS)(x:List Nat×ByteArray)(ob:ByteArray):DS:=
 if s.dn=true then s
 else if s.L.length<capN M then(if (ZcB (s.L++[x]):Int)=s.k then{s with L:=s.L++[x],dn:=true,ob:=ob}else{s with L:=s.L++[x]})
 else{s with ov:=true}
def keepE(M:Int)(s:DS):Int:=if s.dn=true then 0 else if s.L.length<capN M then 0 else 5
def dput(M:Int)(s:DS)(p:PKV)(ob:ByteArray):DS:=if admB s p=true then ZfV M (begS s p) (p.r.xs,p.r.s) ob else s
def ZuD(M:Int)(s:DS)(p:PKV):Int:=if admB s p=true then keepE M (begS s p)else 1
def Zej(M:Int)(s:DS)(x:List Nat×ByteArray)(ob:ByteArray):Prop:=newlyB M s x=true→ObjP s.k s.l (s.L++[x]) ob
theorem Zjq{s:DS}{ob:ByteArray}(h:s.dn=true):ZfV M s x ob=s∧keepE M s=0:=by
 unfold ZfV keepE
 rw[if_pos h,if_pos h];exact⟨rfl,rfl⟩
theorem Zds{s:DS}{ob:ByteArray}(h:s.dn=false)(hl:s.L.length<capN M)(hr:(ZcB (s.L++[x]):Int)=s.k):ZfV M s x ob={s with L:=s.L++[x],dn:=true,ob:=ob}∧keepE M s=0∧newlyB M s x=true:=by
 unfold ZfV keepE newlyB
 rw[h,if_neg (by decide),if_pos hl,if_pos hr,if_neg (by decide),if_pos hl,decide_eq_true hl,decide_eq_true hr];exact⟨rfl,rfl,rfl⟩
theorem ZjB{s:DS}{ob:ByteArray}(h:s.dn=false)(hl:s.L.length<capN M)(hr:¬(ZcB (s.L++[x]):Int)=s.k):ZfV M s x ob={s with L:=s.L++[x]}∧keepE M s=0∧newlyB M s x=false:=by
 unfold ZfV keepE newlyB
 rw[h,if_neg (by decide),if_pos hl,if_neg hr,if_neg (by decide),if_pos hl,decide_eq_true hl,decide_eq_false hr];exact⟨rfl,rfl,rfl⟩
theorem ZfD{s:DS}{ob:ByteArray}(h:s.dn=false)(hl:¬s.L.length<capN M):ZfV M s x ob={s with ov:=true}∧keepE M s=5∧newlyB M s x=false:=by
 unfold ZfV keepE newlyB
 rw[h,if_neg (by decide),if_neg hl,if_neg (by decide),if_neg hl,decide_eq_false hl];exact⟨rfl,rfl,rfl⟩
theorem Ztg{s:DS}(h:s.dn=true):newlyB M s x=false:=by
 unfold newlyB
 rw[h];rfl
structure DInv(s:DS):Prop where
 bg:s.bg=true
 sh:((1≤s.k∧s.k≤128)∧1≤s.z∧s.z≤64)∧0≤s.l∧s.l≤s.k*s.z
 fit:∀x∈s.L,fitB s.k s.z x=true
 dn:s.dn=true↔(ZcB s.L:Int)=s.k
 ob:s.dn=false→s.ob=⟨#[]⟩
 obs:s.ob.size≤8192
theorem DInv.lz{s:DS}(h:DInv s):s.l.toNat≤8192:=by
 have:=ZtJ (k:=s.k) (z:=s.z) h.sh.1
 have:=h.sh.2
 omega
theorem DInv.keep{s:DS}(h:DInv s){x:List Nat×ByteArray}(hx:fitB s.k s.z x=true){ob:ByteArray}(hT:Zej M s x ob):DInv (ZfV M s x ob):=by
 have hfit:∀y∈s.L++[x],fitB s.k s.z y=true:=fun y hy=>by
  rcases List.mem_append.1 hy with hy|hy
  ·exact h.fit y hy
  ·rw[List.mem_singleton.1 hy];exact hx
 cases hd:s.dn
 ·by_cases hl:s.L.length<capN M
  ·by_cases hr:(ZcB (s.L++[x]):Int)=s.k
   ·have hz:=(hT (Zds (ob:=ob) hd hl hr).2.2).size
    rw[(Zds hd hl hr).1]
    exact⟨h.bg,h.sh,hfit,⟨fun _=>hr,fun _=>rfl⟩,(fun e=>by cases e),Nat.le_trans hz h.lz⟩
   ·rw[(ZjB hd hl hr).1]
    exact⟨h.bg,h.sh,hfit,⟨(fun e=>by have e':s.dn=true:=e;rw[hd]at e';cases e'),fun e=>absurd e hr⟩,h.ob,h.obs⟩
  ·rw[(ZfD hd hl).1]
   exact⟨h.bg,h.sh,h.fit,h.dn,h.ob,h.obs⟩
 ·rw[(Zjq hd).1];exact h
theorem Zrj:ZcB []=0:=rfl
theorem ZlM{s:DS}(h:admB s p=true):okB p=true∧fitB (begS s p).k (begS s p).z (p.r.xs,p.r.s)=true∧(begS s p).bg=true:=by
 unfold admB at h
 rw[Bool.and_eq_true,Bool.or_eq_true]at h
 obtain⟨h1,h2⟩:=h
 have hf:=h1
 unfold okB at hf
 rw[Bool.and_eq_true]at hf
 refine⟨h1,?_⟩
 unfold begS
 cases hb:s.bg
 ·rw[if_neg (by decide)];exact⟨hf.2,rfl⟩
 ·rw[if_pos rfl]
  rw[hb]at h2
  rcases h2 with h2|h2
  ·cases h2
  ·unfold Zk2 at h2
   obtain⟨_,_,e1,e2⟩:=decide_eq_true_iff.1 h2
   rw[←e1,←e2];exact⟨hf.2,hb⟩
theorem DInv.beg{s:DS}(h:s.bg=true→DInv s)(hp:okB p=true):DInv (begS s p):=by
 unfold begS
 cases hb:s.bg
 ·rw[if_neg (by decide)]
  unfold okB at hp
  rw[Bool.and_eq_true]at hp
  obtain⟨a1,a2,a3,a4⟩:=decide_eq_true_iff.1 hp.1
  exact⟨rfl,⟨a1,a3⟩,(fun x hx=>by cases hx),⟨(fun e=>by cases e),(fun e=>by have h1:(ZcB []:Int)=p.k:=e;rw[Zrj]at h1;omega)⟩,(fun _=>rfl),Nat.zero_le _⟩
 ·rw[if_pos rfl];exact h hb
theorem StAt.tu{F:Nat→Prop}{k z:Int}{ov:Bool}(h:StAt w g B k z m v rs ov)(ht:Tu F w w')(hs:∀j,stF g v j→¬F j)(hw:∀j cur,w.heap[j]? =some (.cells cur 69 (0,0))→¬F j):StAt w' g B k z m v rs ov:=
 ⟨h.blk.tu ht (hs g (.inl rfl)),h.lo,h.own.tu ht (fun j hj=>hs j (.inr hj)),h.rows.tu ht hw,h.le,h.most,h.short⟩
def decC(M:Int)(s:DS)(p:Option Addr):List Value:=[.int .i64 M,.int .i64 s.o,.int .i64 s.l,.int .i64 s.k,.int .i64 s.z,.pointer p,.bool s.dn,.string s.ob]
def ptrD(b:Bool)(gs:Nat):Option Addr:=if b=true then some ⟨gs,0,none⟩else none
def dcF(g gs:Nat)(v:Value)(k:Nat):Prop:=k=g∨stF gs v k
structure DcAt(w:World)(g B:Nat)(M:Int)(s:DS)(gs:Nat)(v:Value)(rs:List RV):Prop where
 blk:BkA 179 w g (decC M s (ptrD s.bg gs))
 lo:B≤g
 begun:s.bg=true→StAt w gs B s.k s.z (capN M) v rs s.ov∧DInv s
 fresh:s.bg=false→s=zDS∧v=.slice none 0 0∧gs=g
 co:rs.map core=s.L
theorem DcAt.below{s:DS}(h:DcAt w g B M s gs v rs)(hb:Below w.heap.size w w'):DcAt w' g B M s gs v rs:=
 ⟨h.blk.below hb,h.lo,fun e=>⟨(h.begun e).1.below hb,(h.begun e).2⟩,h.fresh,h.co⟩
theorem DcAt.lt{s:DS}(h:DcAt w g B M s gs v rs):g<w.heap.size:=h.blk.lt
theorem DcAt.lob{s:DS}(h:DcAt w g B M s gs v rs):B≤w.heap.size:=Nat.le_of_lt (Nat.lt_of_le_of_lt h.lo h.lt)
theorem DcAt.mono{B':Nat}{s:DS}(h:DcAt w g B M s gs v rs)(hB:B'≤B):DcAt w g B' M s gs v rs:=
 ⟨h.blk,Nat.le_trans hB h.lo,fun e=>⟨(h.begun e).1.mono hB,(h.begun e).2⟩,h.fresh,h.co⟩
theorem DcAt.low{s:DS}(h:DcAt w g B M s gs v rs):∀j,j<B→¬dcF g gs v j:=fun j hj hf=>by
 have hlo:=h.lo
 rcases hf with rfl|hf
 ·omega
 ·cases hb:s.bg
  ·obtain⟨_,rfl,rfl⟩:=h.fresh hb
   rcases hf with rfl|hf
   ·omega
   ·cases hf
  ·exact(h.begun hb).1.low j hj hf
theorem DcAt.keeps{s:DS}(h:DcAt w g B M s gs v rs)(ht:Tu (dcF g gs v) w w'):Below B w w':=ht.below h.lob h.low
theorem DcAt.out{s:DS}(h:DcAt w g B M s gs v rs){T:TypeId}{p:Nat}{cur:Array Value}{fz:Nat×Nat}(hp:w.heap[p]? =some (.cells cur T fz))(h1:179≠T)(h2:255≠T)(h3:57≠T):¬dcF g gs v p:=fun hf=>by
 rcases hf with rfl|hf
 ·exact h.blk.ne hp h1 rfl
 ·cases hb:s.bg
  ·obtain⟨_,rfl,rfl⟩:=h.fresh hb
   rcases hf with rfl|hf
   ·exact h.blk.ne hp h1 rfl
   ·cases hf
  ·have hs:=(h.begun hb).1
   rcases hf with rfl|hf
   ·have:=hs.blk
    unfold Bk5 at this
    rw[this]at hp
    simp only[Option.some.injEq,Obj.cells.injEq]at hp
    exact h2 hp.2.1
   ·obtain⟨cur2,hc2⟩:=hs.own.blk5 hf
    rw[hc2]at hp
    simp only[Option.some.injEq,Obj.cells.injEq]at hp
    exact h3 hp.2.1
def Mv(w:World)(gs:Nat)(v:Value)(gs':Nat)(v':Value):Prop:=(gs'=gs∨w.heap.size≤gs')∧(v'.ownBlock=v.ownBlock∨∀j,v'.ownBlock=some j→w.heap.size≤j)
theorem Mv.refl(w:World)(gs:Nat)(v:Value):Mv w gs v gs v:=⟨.inl rfl,.inl rfl⟩
theorem Mv.at{gs':Nat}{v':Value}(h:Mv w gs v gs' v')(g j:Nat)(hj:j<w.heap.size)(hf:dcF g gs' v' j):dcF g gs v j:=by
 rcases hf with rfl|rfl|hf
 ·exact .inl rfl
 ·rcases h.1 with e|e
  ·exact .inr (.inl e)
  ·omega
 ·rcases h.2 with e|e
  ·exact .inr (.inr (e▸hf))
  ·have:=e j hf;omega
theorem Mv.trans{gs2:Nat}{v2:Value}(h:Mv w gs v gs1 v1)(k:Mv w1 gs1 v1 gs2 v2)(hs:w.heap.size≤w1.heap.size):Mv w gs v gs2 v2:=by
 refine⟨?_,?_⟩
 ·rcases k.1 with e|e
  ·rw[e];exact h.1
  ·exact .inr (by omega)
 ·rcases k.2 with e|e
  ·rw[e];exact h.2
  ·exact .inr fun j hj=>Nat.le_trans hs (e j hj)
theorem Mv.new(h:Mv w1 gs v gs1 v1)(hs:w.heap.size≤w1.heap.size):Mv w gs v gs1 v1:=(Mv.refl w gs v).trans h hs
theorem Zxp{w2:World}(h:Tu (dcF g gs v) w w1)(k:Tu (dcF g gs1 v1) w1 w2)(hm:Mv w gs v gs1 v1):Tu (dcF g gs v) w w2:=h.trans k fun j hj hf=>hm.at g j hj hf
theorem ZAE(w:World)(M:Int):DcAt (w.alloc (.cells #[.int .i64 M,.int .i64 0,.int .i64 0,.int .i64 0,.int .i64 0,.pointer none,.bool false,.string ⟨#[]⟩] 179)) w.heap.size w.heap.size M zDS w.heap.size (.slice none 0 0) []:=
 ⟨Zag 179 w (decC M zDS none),Nat.le_refl _,(fun e=>by cases e),(fun _=>⟨rfl,rfl,rfl⟩),rfl⟩
theorem DcAt.cells{s:DS}(h:DcAt w g B M s gs v rs):
  w.cell? ⟨g,0,none⟩=some (.int .i64 M)∧w.cell? ⟨g,1,none⟩=some (.int .i64 s.o)∧w.cell? ⟨g,2,none⟩=some (.int .i64 s.l)∧w.cell? ⟨g,3,none⟩=some (.int .i64 s.k)∧w.cell? ⟨g,4,none⟩=some (.int .i64 s.z)∧
   w.cell? ⟨g,5,none⟩=some (.pointer (ptrD s.bg gs))∧w.cell? ⟨g,6,none⟩=some (.bool s.dn)∧w.cell? ⟨g,7,none⟩=some (.string s.ob):=
 ⟨h.blk.at 0 rfl,h.blk.at 1 rfl,h.blk.at 2 rfl,h.blk.at 3 rfl,h.blk.at 4 rfl,h.blk.at 5 rfl,h.blk.at 6 rfl,h.blk.at 7 rfl⟩
end Go.Proofs.YtlhhinlghhjghaaGreatDoor
namespace Go.Proofs.YtlhhinlghhjghaaGreatDoor
set_option linter.unusedVariables false
set_option linter.unusedSimpArgs false
set_option maxRecDepth 4000
set_option maxHeartbeats 8000000
variable {k:Nat}
theorem ZpE(xs:List Nat)(i j:Nat)(h:i<64*xs.length):getB (setB xs i true) j=(decide (j=i)||getB xs j):=by
 have hi:i/64<xs.length:=by omega
 unfold getB setB setW
 rw[ZaP]
 by_cases h1:j/64=i/64
 ·rw[if_pos ⟨h1,hi⟩,h1]
  by_cases h2:j%64=i%64
  ·have h3:j=i:=by omega
   subst h3
   split
   ·rename_i hb;rw[hb];simp
   ·rename_i hb;rw[Nat.testBit_xor,Nat.testBit_two_pow];simp at hb;simp[hb]
  ·have h3:decide (j=i)=false:=by simp;omega
   have h4:decide (i%64=j%64)=false:=by simp;omega
   split
   ·rw[h3];rfl
   ·rw[Nat.testBit_xor,Nat.testBit_two_pow,h3,h4];simp
 ·have h3:decide (j=i)=false:=by simp;omega
  rw[if_neg (fun k=>h1 k.1),h3];rfl
theorem Zmu(n i:Nat):getB (List.replicate n 0) i=false:=by
 unfold getB
 have:(List.replicate n 0).getD (i/64) 0=0:=by
  rw[List.getD_eq_getElem?_getD,List.getElem?_replicate]
  split<;>rfl
 rw[this];simp
def rowL(k:Nat)(ns:List Nat):List Nat:=ns.foldl (fun v i=>setB v i true) (List.replicate (sizeOfK (k:Int)) 0)
theorem ZuO(k:Nat):rowL k []=List.replicate (sizeOfK (k:Int)) 0:=rfl
theorem ZsM(k:Nat)(ns:List Nat)(i:Nat):rowL k (ns++[i])=setB (rowL k ns) i true:=by simp[rowL,List.foldl_append]
theorem Zrm(k:Nat)(ns:List Nat)(j:Nat)(h:j<ns.length):rowL k (ns.take (j+1))=setB (rowL k (ns.take j)) (ns.getD j 0) true:=by
 rw[List.take_succ_eq_append_getElem h,ZsM]
 simp[List.getD_eq_getElem?_getD,List.getElem?_eq_getElem h]
theorem ZhF(h1:1≤k)(h2:k≤128):sizeOfK (k:Int)=(k+63)/64:=by
 unfold sizeOfK
 rw[if_neg (by omega)]
 omega
theorem Zm9:∀(ns v:List Nat),(ns.foldl (fun v i=>setB v i true) v).length=v.length
 |[],_=>rfl
 |i::ns,v=>by rw[List.foldl_cons,Zm9 ns,Zbh]
theorem Zc7(k:Nat)(ns:List Nat):(rowL k ns).length=sizeOfK (k:Int):=by rw[rowL,Zm9,List.length_replicate]
theorem Zj8(n:Nat):smalls (List.replicate n 0):=by
 intro x hx
 rw[(List.mem_replicate.1 hx).2]
 show 0<18446744073709551616
 decide
theorem Znq:∀(ns v:List Nat) (j:Nat),(∀i∈ns,i<64*v.length)→getB (ns.foldl (fun v i=>setB v i true) v) j=(decide (j∈ns)||getB v j)
 |[],v,j,_=>by simp
 |i::ns,v,j,h=>by
  rw[List.foldl_cons,Znq ns _ j (fun x hx=>by rw[Zbh];exact h x (by simp[hx])),ZpE v i j (h i (by simp))]
  by_cases h1:j∈ns<;>by_cases h2:j=i<;>simp[h1,h2]
theorem Znb{ns:List Nat}(h1:1≤k)(h2:k≤128)(h:∀i∈ns,i<k)(j:Nat):getB (rowL k ns) j=decide (j∈ns):=by
 rw[rowL,Znq ns _ j (fun i hi=>by have:=h i hi;rw[List.length_replicate,ZhF h1 h2];omega),Zmu]
 simp
theorem Zps{ns:List Nat}(h1:1≤k)(h2:k≤128)(h:∀i∈ns,i<k):Za5 (k:Int) (rowL k ns):=by
 refine⟨by rw[Zc7,ZhF h1 h2];omega,Zc7 _ _,fun i hi=>?_⟩
 rw[Znb h1 h2 h,decide_eq_false_iff_not]
 intro hm
 have:=h i hm
 omega
theorem ZwR{xs:List Nat}{i:Nat}(h:getB xs i=true):0<cnt xs:=by
 rcases Nat.eq_zero_or_pos (cnt xs)with h0|h0
 ·exfalso
  have h1:upTo xs 0=cnt xs:=by rw[h0];rfl
  rw[(Zjv xs 0).1 h1 i (Nat.zero_le _)]at h
  cases h
 ·exact h0
def degN(k s x:Nat):Nat:=pickD (tableL k s) x
theorem ZzQ(k s x:Nat)(hk:1≤k)(hs:s≤128):1≤degN k s x∧degN k s x≤k:=by
 have:=ZwG (Zqh k s hk hs) x
 rw[Zbo]at this
 exact this
def degL(k s:Nat)(L:List Nat)(N:Nat):Nat:=degN k s (Zbg L (N+1))
def ZdC(k s:Nat)(L:List Nat)(N:Nat):List Nat:=rowL k (Zc2 L (N+1) k (degL k s L N))
def Zz7(k s:Nat)(L:List Nat)(N:Nat):Nat:=N+1+degL k s L N
theorem Zmc(k s:Nat)(L:List Nat)(N:Nat)(hk:1≤k)(hs:s≤128):1≤degL k s L N∧degL k s L N≤k:=ZzQ k s _ hk hs
theorem Zzs(k s:Nat)(L:List Nat)(N:Nat)(hk:1≤k)(hs:s≤128):min ((degL k s L N:Nat):Int).toNat k=degL k s L N:=by
 have:=Zmc k s L N hk hs
 omega
theorem ZiZ(L:List Nat)(N n k i:Nat)(h:i∈Zc2 L N n k):i<n:=by
 unfold Zc2 at h
 exact List.mem_range.1 (List.mem_filter.1 h).1
theorem Zmo(k s:Nat)(L:List Nat)(N:Nat):(ZdC k s L N).length=sizeOfK (k:Int):=Zc7 _ _
theorem ZoC(k s:Nat)(L:List Nat)(N:Nat)(h1:1≤k)(h2:k≤128):Za5 (k:Int) (ZdC k s L N):=Zps h1 h2 fun i hi=>ZiZ _ _ _ _ i hi
theorem ZkW(k s:Nat)(L:List Nat)(N:Nat)(h1:1≤k)(h2:k≤128)(hs:s≤128):∃i,i<k∧getB (ZdC k s L N) i=true:=by
 have hd:=Zmc k s L N h1 hs
 have hl:=Zgd L (N+1) k (degL k s L N) hd.2
 obtain⟨i,ns',he⟩:=List.exists_cons_of_ne_nil (show Zc2 L (N+1) k (degL k s L N)≠ [] from fun e=>by rw[e]at hl;simp at hl;omega)
 have hm:i∈Zc2 L (N+1) k (degL k s L N):=by rw[he];simp
 refine⟨i,ZiZ _ _ _ _ i hm,?_⟩
 rw[ZdC,Znb h1 h2 (fun i hi=>ZiZ _ _ _ _ i hi)]
 exact decide_eq_true hm
theorem Zw6(k s:Nat)(L:List Nat)(N:Nat)(h1:1≤k)(h2:k≤128)(hs:s≤128):0<cnt (ZdC k s L N):=by
 obtain⟨i,_,hi⟩:=ZkW k s L N h1 h2 hs
 exact ZwR hi
theorem ZkF(ss:List ByteArray)(vs:List Nat)(z:Nat)(h:∀i,i<ss.length→(ss.getD i ByteArray.empty).size=z):∀n,n≤ss.length→((∃i,i<n∧getB vs i=true)→(ofL ss vs n).length=z)∧((ofL ss vs n).length=0∨(ofL ss vs n).length=z)
 |0,_=>⟨fun⟨i,hi,_⟩=>by omega,.inl rfl⟩
 |n+1,hn=>by
  obtain⟨h1,h2⟩:=ZkF ss vs z h n (by omega)
  cases hg:getB vs n
  ·rw[Zyd hg]
   refine⟨fun⟨i,hi,hb⟩=>h1 ⟨i,?_,hb⟩,h2⟩
   rcases Nat.lt_or_ge i n with hlt|hge
   ·exact hlt
   ·obtain rfl:i=n:=by omega
    rw[hg]at hb;cases hb
  ·rw[ZrR hg,Zae,Zaa,h n (by omega)]
   have:max (ofL ss vs n).length z=z:=by rcases h2 with h2|h2<;>omega
   exact⟨fun _=>this,.inr this⟩
theorem Zw9(xs:List Nat)(z k i:Nat)(h:i<k):((Zap xs z k).getD i ByteArray.empty).size=z:=by rw[Zh7 xs z k i h,Zb1,Ziv]
theorem Zzy(xs:List Nat)(z k s:Nat)(L:List Nat)(N:Nat)(h1:1≤k)(h2:k≤128)(hs:s≤128):(st (ofL (Zap xs z k) (ZdC k s L N) k)).size=z:=by
 rw[Zb1]
 refine(ZkF (Zap xs z k) (ZdC k s L N) z (fun i hi=>?_) k (by rw[Za8];exact Nat.le_refl _)).1 (ZkW k s L N h1 h2 hs)
 rw[Za8]at hi
 exact Zw9 xs z k i hi
end Go.Proofs.YtlhhinlghhjghaaGreatDoor
namespace Go.Proofs.YtlhhinlghhjghaaGreatDoor
open Go.RowKit
set_option linter.unusedVariables false
set_option linter.unusedSimpArgs false
set_option maxRecDepth 4000
set_option maxHeartbeats 8000000
theorem Zhm{k k':IntKind}{a b c d:Int}(h:a=c)(h':b=d):Ending.returned (.tuple #[.int k a,.int k' b])=.returned (.tuple #[.int k c,.int k' d]):=by rw[h,h']
theorem ZAp{n z:Nat}(h:0<n%z∨n/z=0):kc n z=n/z+1:=if_pos h
theorem ZBz{n z:Nat}(h:¬(0<n%z∨n/z=0)):kc n z=n/z:=if_neg h
theorem ZwD(n z:Int)(w:World)(hn:n≤9223372036854775807):
  Calls Tryz.prog 170 #[.int .i64 n,.int .i64 z] w fun e w'=>e=.returned (.tuple #[.int .i64 (planK n z),.int .i64 (planE n z)])∧w'=w:=by
 by_cases h:n<0∨z<1∨64<z
 ·rw[(Znz h).1,(Znz h).2]
  by_cases h1:n<0
  ·clear h
   go_enter Tryz.func170,Tryz.ntmps170
   go_wp2
   go_ret2
   exact⟨rfl,rfl⟩
  ·by_cases h2:z<1
   ·clear h
    go_enter Tryz.func170,Tryz.ntmps170
    go_wp2
    go_ret2
    exact⟨rfl,rfl⟩
   ·have h3:64<z:=by omega
    clear h
    go_enter Tryz.func170,Tryz.ntmps170
    go_wp2
    go_ret2
    exact⟨rfl,rfl⟩
 ·obtain⟨N,rfl⟩:∃N:Nat,n=(N:Int):=⟨n.toNat,by omega⟩
  obtain⟨Z,rfl⟩:∃Z:Nat,z=(Z:Int):=⟨z.toNat,by omega⟩
  have hz1:1≤Z:=by omega
  have hz2:Z≤64:=by omega
  have hz0:(1:Int)≤(Z:Int):=by omega
  have hz3:(Z:Int)≤64:=by omega
  have hn0:(0:Int)≤(N:Int):=by omega
  have eq:(N:Int)/(Z:Int)=((N/Z:Nat):Int):=by simp
  have er:(N:Int)%(Z:Int)=((N%Z:Nat):Int):=by simp
  have hq:N/Z≤N:=Nat.div_le_self _ _
  have hqr:N/Z+N%Z≤N:=by
   have h1:=Nat.div_add_mod N Z
   have h2:=Nat.le_mul_of_pos_left (N/Z) (show 0<Z by omega)
   omega
  have HY:=hide (fun h=>ZAp (n:=N) (z:=Z) h)
  have HN:=hide (fun h=>ZBz (n:=N) (z:=Z) h)
  have HO:=hide (fun h=>ZmJ (n:=N) hz1 hz2 h)
  have HS:=hide (fun h=>Ztu (n:=N) hz1 hz2 h)
  generalize kc N Z=k at*
  obtain⟨E0,hE0⟩:∃E0,planE (N:Int) (Z:Int)=E0:=⟨_,rfl⟩
  obtain⟨K0,hK0⟩:∃K0,planK (N:Int) (Z:Int)=K0:=⟨_,rfl⟩
  rw[hE0,hK0]
  rw[hE0,hK0]at HO HS
  clear h hE0 hK0
  generalize N/Z=q at*
  generalize N%Z=r at*
  by_cases hr:0<r
  ·have hkk:=unhide HY (.inl hr)
   have HK:=hide hkk
   by_cases hbig:128<q+1
   ·have hbi:(128:Int)<(q:Int)+1:=by omega
    have HR:=hide (unhide HS (by omega))
    clear HY HN HO HS hkk
    go_enter Tryz.func170,Tryz.ntmps170
    go_wp2
    go_ret2
    exact⟨Zhm (unhide HR).2.symm (unhide HR).1.symm,rfl⟩
   ·have HR:=hide (unhide HO (by omega))
    clear HY HN HO HS hkk
    go_enter Tryz.func170,Tryz.ntmps170
    go_wp2
    go_ret2
    exact⟨Zhm (by rw[(unhide HR).2,unhide HK];go_num) (unhide HR).1.symm,rfl⟩
  ·by_cases hq0:q=0
   ·subst hq0
    have hkk:=unhide HY (.inr rfl)
    have HK:=hide hkk
    have HR:=hide (unhide HO (by omega))
    clear HY HN HO HS hkk
    go_enter Tryz.func170,Tryz.ntmps170
    go_wp2
    go_ret2
    exact⟨Zhm (by rw[(unhide HR).2,unhide HK];rfl) (unhide HR).1.symm,rfl⟩
   ·have hkk:=unhide HN (by omega)
    have HK:=hide hkk
    by_cases hbig:128<q
    ·have HR:=hide (unhide HS (by omega))
     clear HY HN HO HS hkk
     go_enter Tryz.func170,Tryz.ntmps170
     go_wp2
     go_ret2
     exact⟨Zhm (unhide HR).2.symm (unhide HR).1.symm,rfl⟩
    ·have HR:=hide (unhide HO (by omega))
     clear HY HN HO HS hkk
     go_enter Tryz.func170,Tryz.ntmps170
     go_wp2
     go_ret2
     exact⟨Zhm (by rw[(unhide HR).2,unhide HK]) (unhide HR).1.symm,rfl⟩
end Go.Proofs.YtlhhinlghhjghaaGreatDoor
