/-
  What a Mix gives, in one form. No condition.
  Contract of bucketlineref18.Choose. Conditions: at most 300 rows of at most 10 words, a target from -2^40 to 2^40.
  Contracts of relay.rowsOf and Relay.Emit. Conditions: at most 2^40 draws used.
  Contracts of Relay.Emit. Conditions: at most 2^40 draws used.
  Contract of bucketlineref17.Put.
  Contracts of Relay.Emit in one form; a relay and draws side by side. Conditions: at most 2^40 draws used.
  Blocks that hold frames; contracts of frame.number, frame.head, frame.read.
-/
import Derived.Test.YtlhhinlghhjghaaGreatDoorU38
import Derived.Test.YtlhhinlghhjghaaGreatDoorU20
import Derived.Test.YtlhhinlghhjghaaGreatDoorU16
import Derived.BigQuiet
import Derived.Test.YtlhhinlghhjghaaGreatDoorU26
import Derived.Test.YtlhhinlghhjghaaGreatDoorU2
import Derived.OwnWalk
import Derived.Laws.MakeOwn
import Derived.Test.YtlhhinlghhjghaaGreatDoorU1
import Derived.Test.YtlhhinlghhjghaaGreatDoorU0
import Derived.RegionTactic
import Derived.Test.YtlhhinlghhjghaaGreatDoorU36
import Derived.Test.YtlhhinlghhjghaaGreatDoorU23
import Derived.Test.YtlhhinlghhjghaaGreatDoorU12
import Derived.Test.YtlhhinlghhjghaaGreatDoorU19
namespace Go.Proofs.YtlhhinlghhjghaaGreatDoor
open Go.RowKit Go.Sort
set_option linter.unusedVariables false
set_option linter.unusedSimpArgs false
set_option maxRecDepth 4000
set_option maxHeartbeats 8000000
variable {s:ByteArray}{t i:Int}{D:List Nat}{L:List PD}{ps us:List PKV}{g B N n c gb m gd Bd:Nat}{a:Option Addr}{v va v0 v1 v2 v3 v4 v5 v6 v7 v8 v9:Value}{w w' wx:World}
def zPK:PKV:=⟨0,0,0,0,0,⟨none,0,0,[],⟨#[]⟩⟩⟩
theorem Zs4(ch:List Bool)(n:Nat):(ZbJ ch n).length≤n:=by
 have:=List.length_filter_le (fun i=>ch.getD i false) (List.range n)
 rwa[List.length_range]at this
def ZjU(L:List PD)(D:List Nat)(N:Nat)(t:Int):Option PD:=if L.length=0 then none else emitD L (Zbg D (N+1)%L.length) t
def ZAK(L:List PD)(N:Nat):Nat:=if L.length=0 then N else N+1
theorem Zpf(a:Option Addr)(n c:Nat)(ps:List PKV)(w:World)(h:PksAt w a n ps)(hn:n≤1048576):
  Calls Tryz.prog 226 #[.slice a n c] w fun e w'=> ∃v,e=.returned v∧OwnS w' w.heap.size v (rowsK ps)∧Below w.heap.size w w':=by
 obtain rfl:=h.1
 have Hh:=hide h
 have hmk:=Zoo ps.length hn
 have HM:=hide (Zm1 w ps.length hn (filR (rowsK ps) 0) (by rw[Zg1,ZaK]))
 have HBM:Hid (Below w.heap.size w (w.alloc (.cells (madeCells #[.slice none 0 0,.string ⟨#[]⟩] (ps.length*2)) 57))):=hide ((Below.refl _ _).alloc (Nat.le_refl _) _)
 clear h
 go_enter Tryz.func226,Tryz.ntmps226
 go_wp2
 go_loopw [11] (fun i wr=> ∃k:Nat,k≤ps.length∧i=.int .i64 k∧Hid (OwnS wr w.heap.size (.slice (some ⟨w.heap.size,0,none⟩) ps.length ps.length) (filR (rowsK ps) k))∧Hid (Below w.heap.size w wr)) (fun i _=>ps.length-(intOf i).toNat)
 case atStart=>exact⟨0,Nat.zero_le _,rfl,HM,HBM⟩
 case round=>
  obtain⟨k,hk,rfl,HI,HB⟩:=hrel
  clear HM HBM
  by_cases hlt:k<ps.length
  ·obtain⟨b,off,rfl,hcl⟩:=((unhide Hh).below (unhide HB)).at hlt
   obtain⟨hc0,hc1,hc2,hc3,hc4,hc5,hc6⟩:=hcl k hlt
   have hlt':(k:Int)<(ps.length:Int):=by omega
   have hS:=Zhj (rowsK ps) k (by rw[ZaK];exact hlt)
   rw[ZkQ hlt]at hS
   generalize ps.getD k .dflt=p at*
   have hb1:=ZgM wr p
   have hI:=(unhide HI).below hb1
   obtain⟨hx0,hx1,hx2,hx3,hx4,hx5,hx6⟩:=Zdj wr (.int .i64 p.o) (.int .i64 p.l) (.int .i64 p.k) (.int .i64 p.z) (.int .i64 p.h) (.slice p.r.a p.r.n p.r.c) (.string p.r.s)
   have hB1:=below0 (unhide HB) hb1
   generalize hW1:wr.alloc (.cells #[.int .i64 p.o,.int .i64 p.l,.int .i64 p.k,.int .i64 p.z,.int .i64 p.h,.slice p.r.a p.r.n p.r.c,.string p.r.s] 59)=w1 at*
   have hfl:(filR (rowsK ps) k).length=ps.length:=by rw[Zev _ _ (by rw[ZaK];exact hk),ZaK]
   have hcg:=Zbv (filR (rowsK ps) k) k (by omega)
   have hcell0:=hI.cellAt hcg.1
   have hcell1:=hI.cellAt hcg.2
   have hI':w1.ownsRow w.heap.size 57 2 (.slice (some ⟨w.heap.size,0,none⟩) ps.length ps.length) ps.length (cellsR (filR (rowsK ps) k)):=by
    have:w1.ownsRow w.heap.size 57 2 (.slice (some ⟨w.heap.size,0,none⟩) ps.length ps.length) (filR (rowsK ps) k).length (cellsR (filR (rowsK ps) k)):=hI
    rwa[hfl]at this
   have hfz0:=hI'.frozenAt (k*2)
   have hfz1:=hI'.frozenAt (k*2+1)
   have hs2:=hI.stored k p.r
   rw[hS]at hs2
   have HS:=hide hs2
   have HB2:=hide ((hB1.setCell (p:=⟨w.heap.size,k*2,none⟩) (Nat.le_refl _) (.slice p.r.a p.r.n p.r.c)).setCell (p:=⟨w.heap.size,k*2+1,none⟩) (Nat.le_refl _) (.string p.r.s))
   clear hcl hI hI' hs2 hS hcg hfl HI HB hb1 hB1
   generalize (filR (rowsK ps) k).getD k .dflt=z at*
   go_wp2
   go_roundw
   case rel=>exact⟨k+1,by omega,by go_num,HS,HB2⟩
   case measure=>simp[intOf];omega
  ·obtain rfl:k=ps.length:=by omega
   rw[show ps.length=(rowsK ps).length from(ZaK ps).symm,Zi9,ZaK]at HI
   go_wp2
   go_ret
   exact⟨_,rfl,unhide HI,unhide HB⟩
theorem MixR.own{o:Option PD}{e:Ending}(h:MixR w w' o e):Below w.heap.size w w'∧∃q:PKV,e=.returned (.tuple #[q.val,.bool o.isSome])∧q.pd=o.getD zPK.pd∧Own w' w.heap.size (.slice q.r.a q.r.n q.r.c) q.r.xs:=by
 cases o with
 |none=>exact⟨h.1,zPK,h.2,rfl,Own.nil _ _⟩
 |some d=>
  obtain⟨hb,q,hq,he,ho⟩:=h
  exact⟨hb,q,he,hq,ho⟩
theorem Bk2.not{T T':TypeId}{j:Nat}{u0 u1:Value}{cur:Array Value}{fz:Nat×Nat}(h:Bk2 T w g u0 u1)(hj:w.heap[j]? =some (.cells cur T' fz))(hT:T≠T'):j≠g:=fun e=>by
 subst e
 unfold Bk2 at h
 rw[hj]at h
 simp only[Option.some.injEq,Obj.cells.injEq]at h
 exact hT h.2.1.symm
theorem DrAt.bk{L:List Nat}(h:DrAt w g B L N):∃a n c,Bk2 245 w g (.slice a n c) (.int .i64 (N:Int)):=by
 obtain⟨h1,h2,a,n,c,h3,h4⟩:=h
 exact⟨a,n,c,h3⟩
theorem Tab.drawn{T:TypeId}{u:Value}(h:Tab w)(hd:Bk2 T w g (.slice a n c) u)(hg:w.grownBy w' (some g)):Tab w':=fun i hi=>by
 refine hg.cell (h i hi) fun e=>?_
 have h0:=h 0 (by decide)
 have h1:=hd.at0
 rw[←Option.some.inj e,h0]at h1
 cases h1
theorem ZyH(w:World)(g:Nat)(u0 u1 u2 u3 u4 u5 u6:Value):w.grownBy (set7 w g u0 u1 u2 u3 u4 u5 u6) (some g):=
 gb_trans (gb_trans (gb_trans (gb_trans (gb_trans (gb_trans (Zad _ _ _ _) (Zad _ _ _ _) (.inl rfl)) (Zad _ _ _ _) (.inl rfl)) (Zad _ _ _ _) (.inl rfl)) (Zad _ _ _ _) (.inl rfl)) (Zad _ _ _ _) (.inl rfl)) (Zad _ _ _ _) (.inl rfl)
structure EmQ(w wx:World)(g gb B m:Nat)(t i:Int)(v:Value)(ps:List PKV)(gd Bd:Nat)(D:List Nat)(N:Nat)(va:Value)(us:List PKV):Prop where
 r:RlAt wx g gb B m t i v ps
 d:DrAt wx gd Bd D N
 bd:Bd≤wx.heap.size
 k:OwnP wx (w.heap.size+1) va us
 u:OwnKs wx (w.heap.size+1) us
 tab:Tab wx
 pz:PkB wx w.heap.size (.int .i64 0) (.int .i64 0) (.int .i64 0) (.int .i64 0) (.int .i64 0) (.slice none 0 0) (.string ⟨#[]⟩)
 gr:w.grownBy wx (some gd)
theorem EmQ.below{wy:World}(h:EmQ w wx g gb B m t i v ps gd Bd D N va us)(hb:Below wx.heap.size wx wy):EmQ w wy g gb B m t i v ps gd Bd D N va us:=
 ⟨h.r.below hb,h.d.below (hb.mono h.bd),Nat.le_trans h.bd hb.size,h.k.below hb,h.u.below hb,h.tab.below hb,h.pz.below hb,gb_trans h.gr (Zai hb (some gd)) (.inl rfl)⟩
theorem EmQ.drawn{wy:World}{N':Nat}(h:EmQ w wx g gb B m t i v ps gd Bd D N va us)(hd:DrAt wy gd Bd D N')(hg:wx.grownBy wy (some gd)):EmQ w wy g gb B m t i v ps gd Bd D N' va us:=by
 obtain⟨a,n,c,hk⟩:=h.d.bk
 have ht:Tu (fun j=>j=gd) wx wy:=Tu.of_gb hg fun j _ e=>(Option.some.inj e).symm
 refine⟨h.r.drawn hk (by decide) (by decide) (by decide) (by decide) hg,hd,Nat.le_trans h.bd hg.size,h.k.tu ht (fun j hj=>?_),h.u.tu ht (fun j cur hc=>hk.not hc (by decide)),h.tab.drawn hk hg,?_,gb_trans h.gr hg (.inl rfl)⟩
 ·obtain⟨cur,hc⟩:=h.k.blk hj
  exact hk.not hc (by decide)
 ·exact(hg.block _ h.pz.lt fun e=>hk.not h.pz (by decide) (Option.some.inj e)).trans h.pz
theorem EmQ.pks(h:EmQ w wx g gb B m t i v ps gd Bd D N (.slice a n c) us):PksAt wx a n us:=(h.k.at' h.u.ks).1
theorem ZoG{rs:List RV}{b:Int}(h:rs.length≤300):(Zdt rs b t).length≤300:=by
 unfold Zdt
 split
 ·exact Nat.zero_le _
 ·have:=Zs4 (chTo (Zaw rs) t (placeN b rs.length) 31).ch rs.length
  unfold ZaF
  rw[List.length_map]
  omega
theorem Ziw(hk:KsIn w us)(hi:BInv m (us.map PKV.pd)):ZqS us:=fun i=>by
 by_cases hlt:i<us.length
 ·have h1:=(hi.get (i:=i) (by rw[List.length_map];exact hlt)).1
  rw[ZqI hlt]at h1
  have h2:=ZfM h1
  have h3:=(hk.get hlt).1.1
  have h4:(us.getD i .dflt).r.xs.length≤2:=h2
  have h5:=Zcx h1
  have h6:((us.getD i .dflt).r.s.size:Int)=(us.getD i .dflt).z:=h5.2.2.1
  have h7:(us.getD i .dflt).z≤64:=h5.2.2.2.2.2
  omega
 ·rw[List.getD_eq_getElem?_getD,List.getElem?_eq_none (by omega)]
  exact⟨Nat.zero_le _,Nat.zero_le _⟩
theorem Zof{X:World}{tmps:Array Value}{o l k z h:Int}{b:Bool}(ht:tmps.getD 4 undef=.pointer (some ⟨g,0,none⟩))(h5:tmps.getD 5 undef=.bool b)(hk:PkB X g (.int .i64 o) (.int .i64 l) (.int .i64 k) (.int .i64 z) (.int .i64 h) (.slice a n c) (.string s)):
  (results Tryz.f190 tmps).run Tryz.prog X=.ok (.tuple #[.agg #[.int .i64 o,.int .i64 l,.int .i64 k,.int .i64 z,.int .i64 h,.slice a n c,.string s],.bool b]) X:=by
 obtain⟨r0,r1,r2,r3,r4,r5,r6⟩:=hk.at
 have ht':tmps[4]?.getD undef=.pointer (some ⟨g,0,none⟩):=by simpa using ht
 have h5':tmps[5]?.getD undef=.bool b:=by simpa using h5
 simp[results,Tryz.results190,go_sem,ht',h5',r0,r1,r2,r3,r4,r5,r6]
def EmitR(w w':World)(o:Option PD)(e:Ending):Prop:=∃q:PKV,e=.returned (.tuple #[q.val,.bool o.isSome])∧q.pd=o.getD zPK.pd∧Own w' w.heap.size (.slice q.r.a q.r.n q.r.c) q.r.xs
theorem ZkZ(vr:Value)(d:Value)(w:World)(hK:∀wx,Below w.heap.size w wx→Calls Tryz.prog 38 #[vr] wx fun e w'=>e=.returned (.int .i64 0)∧w'=wx):
  Calls Tryz.prog 190 #[vr,d] w fun e w'=>EmitR w w' none e∧Below w.heap.size w w':=by
 have hb0:Below w.heap.size w (w.alloc (.cells #[.int .i64 0,.int .i64 0,.int .i64 0,.int .i64 0,.int .i64 0,.slice none 0 0,.string ⟨#[]⟩] 59)):=(Below.refl _ _).alloc (Nat.le_refl _) _
 have hz:=ZaG w (.int .i64 0) (.int .i64 0) (.int .i64 0) (.int .i64 0) (.int .i64 0) (.slice none 0 0) (.string ⟨#[]⟩)
 have HK:=hide (hK _ hb0)
 have HZ:=hide hz
 have HB0:=hide hb0
 obtain⟨x0,x1,x2,x3,x4,x5,x6⟩:=hz.at
 have xf:=hz.frz
 clear hz hb0 hK
 go_enter Tryz.func190,Tryz.ntmps190
 generalize hWW:w.alloc (.cells #[.int .i64 0,.int .i64 0,.int .i64 0,.int .i64 0,.int .i64 0,.slice none 0 0,.string ⟨#[]⟩] 59)=W at*
 go_wp2_with (go_at_call 38;refine(unhide HK).mono ?_;rintro e w1 ⟨rfl,hw1⟩;obtain rfl:=hw1.symm;clear hw1)
 exact bodyPost_ret (Zof (X:=set7 W w.heap.size (.int .i64 0) (.int .i64 0) (.int .i64 0) (.int .i64 0) (.int .i64 0) (.slice none 0 0) (.string ⟨#[]⟩)) rfl rfl ((unhide HZ).sets (.int .i64 0) (.int .i64 0) (.int .i64 0) (.int .i64 0) (.int .i64 0) (.slice none 0 0) (.string ⟨#[]⟩))) rfl ⟨⟨zPK,rfl,rfl,Own.nil _ _⟩,Zbd (unhide HB0) (Nat.le_refl _) _ _ _ _ _ _ _⟩
theorem ZtR(g gb B m:Nat)(t i:Int)(v:Value)(d:Value)(w:World)(h:RlAt w g gb B m t i v []):Calls Tryz.prog 190 #[.pointer (some ⟨g,0,none⟩),d] w fun e w'=>EmitR w w' none e∧Below w.heap.size w w':=
 ZkZ _ d w fun wx hb=>Zd6 g gb B m t i v [] wx (h.below hb)
theorem Zxj{w4 w5:World}{q:PKV}(h:EmQ w w4 g gb B m t i v ps gd Bd D N va us)(hb:Below w4.heap.size w4 w5)(ho:Own w5 w4.heap.size (.slice q.r.a q.r.n q.r.c) q.r.xs):
  Own (set7 w5 w.heap.size (.int .i64 q.o) (.int .i64 q.l) (.int .i64 q.k) (.int .i64 q.z) (.int .i64 q.h) (.slice q.r.a q.r.n q.r.c) (.string q.r.s)) w.heap.size (.slice q.r.a q.r.n q.r.c) q.r.xs∧(Bd≤w.heap.size→DrAt (set7 w5 w.heap.size (.int .i64 q.o) (.int .i64 q.l) (.int .i64 q.k) (.int .i64 q.z) (.int .i64 q.h) (.slice q.r.a q.r.n q.r.c) (.string q.r.s)) gd Bd D N)∧w.grownBy (set7 w5 w.heap.size (.int .i64 q.o) (.int .i64 q.l) (.int .i64 q.k) (.int .i64 q.z) (.int .i64 q.h) (.slice q.r.a q.r.n q.r.c) (.string q.r.s)) (some gd):=by
 have h5:=h.below hb
 have hlt:=h.pz.lt
 refine⟨(ho.all7 hlt _ _ _ _ _ _ _).mono (Nat.le_of_lt hlt),fun hB=>h5.d.below (Zbd (Below.refl _ _) hB _ _ _ _ _ _ _),gb_trans h5.gr (ZyH _ _ _ _ _ _ _ _ _) (.inr fun j hj=>Nat.le_of_eq (Option.some.inj hj))⟩
theorem Zrf(g gb B m:Nat)(t i:Int)(v:Value)(ps:List PKV)(gd Bd:Nat)(D:List Nat)(N:Nat)(w:World)(ht:Tab w)(h:RlAt w g gb B m t i v ps)(hd:DrAt w gd Bd D N)(hB:Bd≤w.heap.size)(hN:N≤1099511627776)(htt: -1099511627776≤t∧t≤1099511627776)(h0:0<ps.length):
  Calls Tryz.prog 190 #[.pointer (some ⟨g,0,none⟩),.pointer (some ⟨gd,0,none⟩)] w fun e w'=>EmitR w w' (emitD (ps.map PKV.pd) (Zbg D (N+1)%ps.length) t) e∧DrAt w' gd Bd D (N+1)∧w.grownBy w' (some gd):=by
 have hb0:Below w.heap.size w (w.alloc (.cells #[.int .i64 0,.int .i64 0,.int .i64 0,.int .i64 0,.int .i64 0,.slice none 0 0,.string ⟨#[]⟩] 59)):=(Below.refl _ _).alloc (Nat.le_refl _) _
 have hz:=ZaG w (.int .i64 0) (.int .i64 0) (.int .i64 0) (.int .i64 0) (.int .i64 0) (.slice none 0 0) (.string ⟨#[]⟩)
 have hsz:(w.alloc (.cells #[.int .i64 0,.int .i64 0,.int .i64 0,.int .i64 0,.int .i64 0,.slice none 0 0,.string ⟨#[]⟩] 59)).heap.size=w.heap.size+1:=Zab _ _
 have hlen:=h.buf.len.2
 generalize hWW:w.alloc (.cells #[.int .i64 0,.int .i64 0,.int .i64 0,.int .i64 0,.int .i64 0,.slice none 0 0,.string ⟨#[]⟩] 59)=W at*
 have HDW:=hide (hd.below (hb0.mono hB))
 have HKE0:=Zd6 g gb B m t i v ps W (h.below hb0)
 have HR0:=hide (h.below hb0)
 have HINV:=hide h.buf.inv
 have HT0:=hide (ht.below hb0)
 have HZ:=hide hz
 have HB0:=hide hb0
 have HSZ:=hide hsz
 have hal:=Zw5 ⟨gb,0,none⟩
 obtain⟨n,hnn⟩:∃n,ps.length=n:=⟨_,rfl⟩
 rw[hnn]at HKE0 h0 hlen⊢
 have HKE:=hide HKE0
 have HNN:=hide hnn
 have hn0:¬((n:Int)=0):=by omega
 have hn1:((n:Int)==0)=false:=by rw[beq_eq_false_iff_ne];exact hn0
 obtain⟨c0, -, -⟩:=(h.below hb0).cells
 clear h ht hz hb0 hsz hnn HKE0 hd
 go_enter Tryz.func190,Tryz.ntmps190
 go_wp2_with (go_at_call 38;refine(unhide HKE).mono ?_;rintro e w1 ⟨rfl,hw1⟩;obtain rfl:=hw1.symm;clear hw1 HKE)
 refine(Zso gb B m v ps _ (unhide HR0).buf).mono ?_
 rintro e w2 ⟨b2,c2,us,rfl,ho2,hk2,hp2,hb2⟩
 have hB2:=hb2
 have HQ2:Hid (EmQ w w2 g gb B m t i v ps gd Bd D N (.slice (some ⟨b2,0,none⟩) ps.length c2) us):=hide ⟨(unhide HR0).below hb2,(unhide HDW).below (hb2.mono (Nat.le_trans hB (unhide HB0).size)),(Nat.le_trans hB (Nat.le_trans (unhide HB0).size hB2.size)),ho2.mono (by rw[←unhide HSZ];exact Nat.le_refl _),hk2.mono (by rw[←unhide HSZ];exact Nat.le_refl _),(unhide HT0).below hb2,(unhide HZ).below hb2,Zai (below0 (unhide HB0) hb2) _⟩
 have hul:us.length=n:=by rw[←unhide HNN];have:=congrArg List.length hp2;simpa using this
 have HUL:=hide hul
 have HIV:Hid (BInv m (us.map PKV.pd)):=hide (by rw[hp2];exact unhide HINV)
 have HPD:=hide hp2
 rw[unhide HNN]at HQ2⊢
 clear ho2 hk2 hp2 hb2 hB2 hul HINV HR0 HDW
 obtain⟨f0,f1, -⟩:=(unhide HQ2).r.cells
 have HRO:=hide (fun wx (hq:EmQ w wx g gb B m t i v ps gd Bd D N (.slice (some ⟨b2,0,none⟩) n c2) us)=>Zpf (some ⟨b2,0,none⟩) n c2 us wx hq.pks (by omega))
 have HBE:=hide (fun wx (hq:EmQ w wx g gb B m t i v ps gd Bd D N (.slice (some ⟨b2,0,none⟩) n c2) us)=>Zky gd Bd D N n wx hq.d hN (by omega) (by omega))
 have HMO:=hide (show Zbg D (N+1)%n<n from Nat.mod_lt _ h0)
 generalize hbb:Zbg D (N+1)%n=bb at*
 go_wp2_with fail
 go_region_held3 (fun w'=>w'.cell? ⟨g,1,none⟩=some (.int .i64 t)) (go_keep) (first
  |(go_at_call 226;refine(unhide HRO _ ((unhide HQ2).below (Below.refl _ _).drew)).mono ?_;rintro e w3 ⟨v3,rfl,ho3,hb3⟩;have hq3:=((unhide HQ2).below (Below.refl _ _).drew).below hb3;have HQ3:=hide hq3;obtain⟨a3,d3,rfl⟩:=ho3.shape;rw[ZaK,unhide HUL]at ho3⊢;have HO3:=hide ho3;have HG3:=hide ((unhide HQ2).below (Below.refl _ _).drew).d.lt;obtain⟨-,k1, -⟩:=hq3.r.cells;clear ho3 hb3 hq3)
  |(go_at_call 227;refine(unhide HBE _ (unhide HQ3)).mono ?_;rintro e w4 ⟨rfl,hd4,hg4⟩;have hq4:=(unhide HQ3).drawn hd4 hg4;have HQ4:=hide hq4;have HO4:=hide ((unhide HO3).keptB hg4 (unhide HG3));obtain⟨-,l1, -⟩:=hq4.r.cells;clear hd4 hg4 hq4)
  |(go_at_call 225;refine(choose_any a3 n d3 (rowsK us) (bb:Int) t w4 (((unhide HO4).at' (KsIn.rows (unhide HQ4).u.ks)).1) (shortP_rows fun p hp=>ZiO (Ziw (unhide HQ4).u.ks (unhide HIV)) hp) (by omega) (by have:=unhide HMO;omega) htt).mono ?_;rintro e w5 ⟨v5,rfl,ho5,hb5⟩;have hq5:=(unhide HQ4).below hb5;have HQ5:=hide hq5;obtain⟨a5,d5,rfl,hz5⟩:=ho5.ints;have HZ5:=hide hz5;obtain⟨-,m1, -⟩:=hq5.r.cells;clear ho5 hb5 hq5 hz5))
 have HMX0:=Zs1 (some ⟨b2,0,none⟩) n c2 us a5 (Zdt (rowsK us) (bb:Int) t).length d5 (Zdt (rowsK us) (bb:Int) t) w5 (unhide HQ5).tab (unhide HQ5).pks (unhide HQ5).u.ks (Ziw (unhide HQ5).u.ks (unhide HIV)) (unhide HZ5) (by omega) (ZoG (by rw[ZaK,unhide HUL];omega))
 rw[ZyX (by rw[unhide HUL];exact unhide HMO),unhide HPD]at HMX0
 have HMX:=hide HMX0
 clear HMX0
 obtain⟨O,hO⟩:∃O,emitD (ps.map PKV.pd) bb t=O:=⟨_,rfl⟩
 have HOO:Hid (emitD (ps.map PKV.pd) (Zbg D (N+1)%n) t=O):=hide (by rw[show Zbg D (N+1)%n=bb from hbb];exact hO)
 rw[hO]at HMX
 clear hO
 go_wp2_with (go_at_call 228;refine(unhide HMX).mono ?_;rintro e w6 hM;obtain⟨hb6,q,rfl,hq6,ho6⟩:=hM.own;have HE6:=hide (Zxj (unhide HQ5) hb6 ho6);have HQ6:=hide hq6;have hz6:=(unhide HQ5).pz.below hb6;obtain⟨x0,x1,x2,x3,x4,x5,x6⟩:=hz6.at;have xf:=hz6.frz;have HZ6:=hide hz6;unfold PKV.val;clear hb6 hq6 ho6 hM hz6)
 obtain⟨y1,y2,y3⟩:=unhide HE6
 exact bodyPost_ret (Zof (X:=set7 w6 w.heap.size (.int .i64 q.o) (.int .i64 q.l) (.int .i64 q.k) (.int .i64 q.z) (.int .i64 q.h) (.slice q.r.a q.r.n q.r.c) (.string q.r.s)) rfl rfl ((unhide HZ6).sets (.int .i64 q.o) (.int .i64 q.l) (.int .i64 q.k) (.int .i64 q.z) (.int .i64 q.h) (.slice q.r.a q.r.n q.r.c) (.string q.r.s))) rfl ⟨⟨q,by rw[unhide HOO];rfl,by rw[unhide HOO];exact unhide HQ6,y1⟩,y2 hB,y3⟩
theorem Zx5{c P Q:Prop} [Decidable c](hc:¬c)(h:Q):if c then P else Q:=by rw[if_neg hc];exact h
theorem ZuJ(D:List Nat)(N:Nat)(t:Int)(h:0<L.length):ZjU L D N t=emitD L (Zbg D (N+1)%L.length) t:=if_neg (by omega)
theorem Zuk(N:Nat)(h:0<L.length):ZAK L N=N+1:=if_neg (by omega)
theorem Zqj(g gb B m:Nat)(t i:Int)(v:Value)(ps:List PKV)(gd Bd:Nat)(D:List Nat)(N:Nat)(w:World)(ht:Tab w)(h:RlAt w g gb B m t i v ps)(hd:DrAt w gd Bd D N)(hB:Bd≤w.heap.size)(hN:N≤1099511627776)(htt: -1099511627776≤t∧t≤1099511627776):
  Calls Tryz.prog 190 #[.pointer (some ⟨g,0,none⟩),.pointer (some ⟨gd,0,none⟩)] w fun e w'=>EmitR w w' (ZjU (ps.map PKV.pd) D N t) e∧DrAt w' gd Bd D (ZAK (ps.map PKV.pd) N)∧w.grownBy w' (some gd):=by
 by_cases h0:0<ps.length
 ·have h1:0<(ps.map PKV.pd).length:=by rw[List.length_map];exact h0
  rw[ZuJ D N t h1,Zuk N h1,List.length_map]
  exact Zrf g gb B m t i v ps gd Bd D N w ht h hd hB hN htt h0
 ·obtain rfl:ps=[]:=List.eq_nil_of_length_eq_zero (by omega)
  refine(ZtR g gb B m t i v _ w h).mono fun e w' he=>?_
  exact⟨he.1,hd.below (he.2.mono hB),Zai he.2 _⟩
theorem EmitR.row{o:Option PD}{e:Ending}(h:EmitR w w' o e):∃q:PKV,e=.returned (.tuple #[q.val,.bool o.isSome])∧q.pd=o.getD zPK.pd∧RowAt w' q.r.a q.r.n q.r.xs:=by
 obtain⟨q,he,hq,ho⟩:=h
 refine⟨q,he,hq,?_⟩
 obtain⟨_,_,e2,hr⟩:=ho.row
 simp only[Value.slice.injEq]at e2
 obtain⟨rfl,h2,rfl⟩:=e2
 rw[h2]
 exact hr
theorem Zx3(h:w.grownBy w' (some g))(hB:B≤w.heap.size)(hg:B≤g):Below B w w':=Zat h hB fun k hk=>by rw[←Option.some.inj hk];exact hg
theorem Zs8(p:PKV)(w:World):Calls Tryz.prog 33 #[.pointer none,p.val] w fun e w'=>e=.returned (.bool false)∧Below w.heap.size w w':=by
 have hb0:=ZgM w p
 unfold PKV.val
 generalize hW:w.alloc (.cells #[.int .i64 p.o,.int .i64 p.l,.int .i64 p.k,.int .i64 p.z,.int .i64 p.h,.slice p.r.a p.r.n p.r.c,.string p.r.s] 59)=W at*
 have HB0:=hide hb0
 have cN:=hide (Za6 (W:=W) (fun w' hb=>(ZiE w').mono fun e w'' he=>⟨he.1,by rw[he.2];exact Below.refl _ _⟩))
 clear hb0
 go_enter Tryz.func33,Tryz.ntmps33
 go_wp2_with fail
 refine wp_region_quiet_below (by kernel_rfl) (by kernel_rfl) ?_
 repeat (with_reducible refine wpQuiet_step (fun K hK=>?_);go_simp;first|(with_reducible refine hK _ ?_;clear hK K)|(refine Zx5 (by decide) ?_;with_reducible refine hK _ ?_;clear hK K)|(apply Exists.intro;apply And.intro;(intro _;first|(go_at_call 76;exact unhide cN _ _));with_reducible refine hK _ ?_;clear hK K))
 refine wpQuiet_nil ?_
 intro w3 hw3
 obtain⟨⟨dq,osq⟩,hw3⟩:=hw3
 have B3:=hide (below0 (unhide HB0) (show Below W.heap.size W w3 by rw[hw3];exact below_regrown _ dq osq))
 clear hw3 dq osq
 go_wp2
 go_ret
 exact⟨rfl,unhide B3⟩
theorem Ztq{d:PD}(h:ZjU L D N t=some d):∃ws,mixD L ws=some d:=by
 unfold ZjU at h
 split at h
 ·cases h
 ·exact⟨_,h⟩
def FrB(w:World)(g:Nat)(v0 v1 v2 v3 v4 v5 v6 v7 v8 v9:Value):Prop:=w.heap[g]? =some (.cells #[v0,v1,v2,v3,v4,v5,v6,v7,v8,v9] 78 (0,0))
theorem ZfJ(w:World)(v0 v1 v2 v3 v4 v5 v6 v7 v8 v9:Value):FrB (w.alloc (.cells #[v0,v1,v2,v3,v4,v5,v6,v7,v8,v9] 78)) w.heap.size v0 v1 v2 v3 v4 v5 v6 v7 v8 v9:=by
 show(w.heap.push _)[w.heap.size]? =_
 simp
theorem FrB.lt(h:FrB w g v0 v1 v2 v3 v4 v5 v6 v7 v8 v9):g<w.heap.size:=(Array.getElem?_eq_some_iff.1 h).1
theorem FrB.below(h:FrB w g v0 v1 v2 v3 v4 v5 v6 v7 v8 v9)(hb:Below w.heap.size w w'):FrB w' g v0 v1 v2 v3 v4 v5 v6 v7 v8 v9:=(hb.block g h.lt).trans h
theorem FrB.at(h:FrB w g v0 v1 v2 v3 v4 v5 v6 v7 v8 v9):FrAt w g v0 v1 v2 v3 v4 v5 v6 v7 v8 v9:=by
 unfold FrB at h
 refine⟨⟨?_,?_,?_⟩,?_,?_,?_,?_,?_,?_,?_⟩<;>rw[cell_of_row w g _ _ _ _ h]<;>rfl
theorem FrB.frz(h:FrB w g v0 v1 v2 v3 v4 v5 v6 v7 v8 v9)(i:Nat):w.frozen? ⟨g,i,none⟩=false:=by
 unfold FrB at h
 simp[World.frozen?,h]
theorem FrB.other(h:FrB w g v0 v1 v2 v3 v4 v5 v6 v7 v8 v9){a:Addr}(ha:g≠a.block)(u:Value):FrB (w.setCell a u) g v0 v1 v2 v3 v4 v5 v6 v7 v8 v9:=
 (Below.heap_setCell w a u g ha).trans h
theorem FrB.set0(h:FrB w g v0 v1 v2 v3 v4 v5 v6 v7 v8 v9)(u:Value):FrB (w.setCell ⟨g,0,none⟩ u) g u v1 v2 v3 v4 v5 v6 v7 v8 v9:=heap_setCell_same w g 0 _ _ u h
theorem FrB.set1(h:FrB w g v0 v1 v2 v3 v4 v5 v6 v7 v8 v9)(u:Value):FrB (w.setCell ⟨g,1,none⟩ u) g v0 u v2 v3 v4 v5 v6 v7 v8 v9:=heap_setCell_same w g 1 _ _ u h
theorem FrB.set2(h:FrB w g v0 v1 v2 v3 v4 v5 v6 v7 v8 v9)(u:Value):FrB (w.setCell ⟨g,2,none⟩ u) g v0 v1 u v3 v4 v5 v6 v7 v8 v9:=heap_setCell_same w g 2 _ _ u h
theorem FrB.set3(h:FrB w g v0 v1 v2 v3 v4 v5 v6 v7 v8 v9)(u:Value):FrB (w.setCell ⟨g,3,none⟩ u) g v0 v1 v2 u v4 v5 v6 v7 v8 v9:=heap_setCell_same w g 3 _ _ u h
theorem FrB.set4(h:FrB w g v0 v1 v2 v3 v4 v5 v6 v7 v8 v9)(u:Value):FrB (w.setCell ⟨g,4,none⟩ u) g v0 v1 v2 v3 u v5 v6 v7 v8 v9:=heap_setCell_same w g 4 _ _ u h
theorem FrB.set5(h:FrB w g v0 v1 v2 v3 v4 v5 v6 v7 v8 v9)(u:Value):FrB (w.setCell ⟨g,5,none⟩ u) g v0 v1 v2 v3 v4 u v6 v7 v8 v9:=heap_setCell_same w g 5 _ _ u h
theorem FrB.set6(h:FrB w g v0 v1 v2 v3 v4 v5 v6 v7 v8 v9)(u:Value):FrB (w.setCell ⟨g,6,none⟩ u) g v0 v1 v2 v3 v4 v5 u v7 v8 v9:=heap_setCell_same w g 6 _ _ u h
theorem FrB.set7(h:FrB w g v0 v1 v2 v3 v4 v5 v6 v7 v8 v9)(u:Value):FrB (w.setCell ⟨g,7,none⟩ u) g v0 v1 v2 v3 v4 v5 v6 u v8 v9:=heap_setCell_same w g 7 _ _ u h
theorem FrB.set8(h:FrB w g v0 v1 v2 v3 v4 v5 v6 v7 v8 v9)(u:Value):FrB (w.setCell ⟨g,8,none⟩ u) g v0 v1 v2 v3 v4 v5 v6 v7 u v9:=heap_setCell_same w g 8 _ _ u h
theorem FrB.set9(h:FrB w g v0 v1 v2 v3 v4 v5 v6 v7 v8 v9)(u:Value):FrB (w.setCell ⟨g,9,none⟩ u) g v0 v1 v2 v3 v4 v5 v6 v7 v8 u:=heap_setCell_same w g 9 _ _ u h
def Zzf(w:World)(g:Nat)(u0 u1 u2 u3 u4 u5 u6 u7 u8 u9:Value):World:=((((((((((w.setCell ⟨g,0,none⟩ u0).setCell ⟨g,1,none⟩ u1).setCell ⟨g,2,none⟩ u2).setCell ⟨g,3,none⟩ u3).setCell ⟨g,4,none⟩ u4).setCell ⟨g,5,none⟩ u5).setCell ⟨g,6,none⟩ u6).setCell ⟨g,7,none⟩ u7).setCell ⟨g,8,none⟩ u8).setCell ⟨g,9,none⟩ u9)
def setP(w:World)(g:Nat)(u3 u4 u5 u6 u7 u8 u9:Value):World:=(((((((w.setCell ⟨g,3,none⟩ u3).setCell ⟨g,4,none⟩ u4).setCell ⟨g,5,none⟩ u5).setCell ⟨g,6,none⟩ u6).setCell ⟨g,7,none⟩ u7).setCell ⟨g,8,none⟩ u8).setCell ⟨g,9,none⟩ u9)
theorem FrB.sets(h:FrB w g v0 v1 v2 v3 v4 v5 v6 v7 v8 v9)(u0 u1 u2 u3 u4 u5 u6 u7 u8 u9:Value):FrB (Zzf w g u0 u1 u2 u3 u4 u5 u6 u7 u8 u9) g u0 u1 u2 u3 u4 u5 u6 u7 u8 u9:=((((((((((h.set0 u0).set1 u1).set2 u2).set3 u3).set4 u4).set5 u5).set6 u6).set7 u7).set8 u8).set9 u9)
theorem FrB.setp(h:FrB w g v0 v1 v2 v3 v4 v5 v6 v7 v8 v9)(u3 u4 u5 u6 u7 u8 u9:Value):FrB (setP w g u3 u4 u5 u6 u7 u8 u9) g v0 v1 v2 u3 u4 u5 u6 u7 u8 u9:=(((((((h.set3 u3).set4 u4).set5 u5).set6 u6).set7 u7).set8 u8).set9 u9)
theorem FrB.otherp{b:Nat}(h:FrB w g v0 v1 v2 v3 v4 v5 v6 v7 v8 v9)(hg:g≠b)(u3 u4 u5 u6 u7 u8 u9:Value):FrB (setP w b u3 u4 u5 u6 u7 u8 u9) g v0 v1 v2 v3 v4 v5 v6 v7 v8 v9:=(((((((h.other (a:=⟨b,3,none⟩) hg u3).other (a:=⟨b,4,none⟩) hg u4).other (a:=⟨b,5,none⟩) hg u5).other (a:=⟨b,6,none⟩) hg u6).other (a:=⟨b,7,none⟩) hg u7).other (a:=⟨b,8,none⟩) hg u8).other (a:=⟨b,9,none⟩) hg u9)
theorem ZfT{a:World}(h:Below B a w){g:Nat}(hg:B≤g)(u0 u1 u2 u3 u4 u5 u6 u7 u8 u9:Value):Below B a (Zzf w g u0 u1 u2 u3 u4 u5 u6 u7 u8 u9):=((((((((((h.setCell hg u0).setCell hg u1).setCell hg u2).setCell hg u3).setCell hg u4).setCell hg u5).setCell hg u6).setCell hg u7).setCell hg u8).setCell hg u9)
theorem ZAZ{a:World}(h:Below B a w){g:Nat}(hg:B≤g)(u3 u4 u5 u6 u7 u8 u9:Value):Below B a (setP w g u3 u4 u5 u6 u7 u8 u9):=(((((((h.setCell hg u3).setCell hg u4).setCell hg u5).setCell hg u6).setCell hg u7).setCell hg u8).setCell hg u9)
theorem RowAt.other10{xs:List Nat}(h:RowAt w a n xs){B:Nat}(hB:∀ad,a=some ad→n≠0→ad.block≠B)(u0 u1 u2 u3 u4 u5 u6 u7 u8 u9:Value):RowAt (Zzf w B u0 u1 u2 u3 u4 u5 u6 u7 u8 u9) a n xs:=((((((((((h.other hB 0 u0).other hB 1 u1).other hB 2 u2).other hB 3 u3).other hB 4 u4).other hB 5 u5).other hB 6 u6).other hB 7 u7).other hB 8 u8).other hB 9 u9)
theorem RowAt.otherP{xs:List Nat}(h:RowAt w a n xs){B:Nat}(hB:∀ad,a=some ad→n≠0→ad.block≠B)(u3 u4 u5 u6 u7 u8 u9:Value):RowAt (setP w B u3 u4 u5 u6 u7 u8 u9) a n xs:=(((((((h.other hB 3 u3).other hB 4 u4).other hB 5 u5).other hB 6 u6).other hB 7 u7).other hB 8 u8).other hB 9 u9)
theorem FrB.apart{i0 i1 i2 i3 i4 i5 i6 i7:Int}{b:Option Addr}{t:ByteArray}(h:FrB w g (.int .i64 i0) (.int .i64 i1) (.int .i64 i2) (.int .i64 i3) (.int .i64 i4) (.int .i64 i5) (.int .i64 i6) (.int .i64 i7) (.slice b m c) (.string t))
  {a:Option Addr} {n:Nat} {xs:List Nat} (hr:RowAt w a n xs):∀ad,a=some ad→n≠0→ad.block≠g:=by
 intro ad ha hn hg
 obtain⟨b',off,hab,hc⟩:=hr.at (i:=0) (by omega)
 rw[ha]at hab
 obtain rfl:=Option.some.inj hab
 have h0:=hc 0 (by omega)
 simp only at hg
 subst hg
 unfold FrB at h
 rw[Nat.add_zero,cell_of_row w b' _ _ _ _ h]at h0
 match off,h0 with
 |0,h0=>simp at h0
 |1,h0=>simp at h0
 |2,h0=>simp at h0
 |3,h0=>simp at h0
 |4,h0=>simp at h0
 |5,h0=>simp at h0
 |6,h0=>simp at h0
 |7,h0=>simp at h0
 |8,h0=>simp at h0
 |9,h0=>simp at h0
 |k+10,h0=>simp at h0
theorem PkB.apart{i3 i4 i5 i6 i7:Int}{b:Option Addr}{t:ByteArray}(h:PkB w g (.int .i64 i3) (.int .i64 i4) (.int .i64 i5) (.int .i64 i6) (.int .i64 i7) (.slice b m c) (.string t))
  {a:Option Addr} {n:Nat} {xs:List Nat} (hr:RowAt w a n xs):∀ad,a=some ad→n≠0→ad.block≠g:=by
 intro ad ha hn hg
 obtain⟨b',off,hab,hc⟩:=hr.at (i:=0) (by omega)
 rw[ha]at hab
 obtain rfl:=Option.some.inj hab
 have h0:=hc 0 (by omega)
 simp only at hg
 subst hg
 unfold PkB at h
 rw[Nat.add_zero,cell_of_row w b' _ _ _ _ h]at h0
 match off,h0 with
 |0,h0=>simp at h0
 |1,h0=>simp at h0
 |2,h0=>simp at h0
 |3,h0=>simp at h0
 |4,h0=>simp at h0
 |5,h0=>simp at h0
 |6,h0=>simp at h0
 |k+7,h0=>simp at h0
theorem Zes(s:ByteArray)(hs:s.size=1∨s.size=4)(w:World):
  Calls Tryz.prog 125 #[.string s] w fun e w'=>e=.returned (.int .i64 ((num (tx s):Nat):Int))∧w'=w:=by
 have hG:=fun wx=>Zg8 s (s.size:Int) wx
 have hg:=Zzu (s:=s) (k:=(s.size:Int)) (by rcases hs with h|h<;>rw[h]<;>simp[isW]) (Int.le_refl _)
 rw[Int.toNat_natCast,←Zaa,List.take_length]at hg
 rw[Zaa]at hg
 rw[hg.1,hg.2]at hG
 have HG:=hide hG
 generalize num (tx s)=x at*
 clear hG hg hs
 go_enter Tryz.func125,Tryz.ntmps125
 go_wp2_with fail
 refine(unhide HG _).mono ?_
 rintro e w' ⟨rfl,hw⟩
 obtain rfl:=hw.symm
 go_wp2
 go_ret
 exact⟨rfl,rfl⟩
theorem ZsG(s:ByteArray)(hs:6≤s.size)(w:World):
  Calls Tryz.prog 65 #[.string s] w fun e w'=>e=.returned (.agg #[.int .i64 ((hdK s:Nat):Int),.int .i64 ((hdF s:Nat):Int),.int .i64 ((hdI s:Nat):Int),.int .i64 0,.int .i64 0,.int .i64 0,.int .i64 0,.int .i64 0,.slice none 0 0,.string ⟨#[]⟩])∧Below w.heap.size w w':=by
 have n0:=fun wx=>Zes (s.extract 0 1) (by rw[ByteArray.size_extract];omega) wx
 have n1:=fun wx=>Zes (s.extract 1 2) (by rw[ByteArray.size_extract];omega) wx
 have n2:=fun wx=>Zes (s.extract 2 6) (by rw[ByteArray.size_extract];omega) wx
 rw[show num (tx (s.extract 0 1))=hdK s from Zj1 s 0 (by omega)]at n0
 rw[show num (tx (s.extract 1 2))=hdF s from Zj1 s 1 (by omega)]at n1
 rw[show num (tx (s.extract 2 6))=hdI s from by rw[ZcJ];rfl]at n2
 have N0:=hide n0
 have N1:=hide n1
 have N2:=hide n2
 generalize hdK s=x0 at*
 generalize hdF s=x1 at*
 generalize hdI s=x2 at*
 have hs1:(1:Int)≤(s.size:Int):=by omega
 have hs2:(2:Int)≤(s.size:Int):=by omega
 have hs6:(6:Int)≤(s.size:Int):=by omega
 clear n0 n1 n2
 go_enter Tryz.func65,Tryz.ntmps65
 go_wp2_with fail
 refine wp_region_any (by kernel_rfl) ?_
 change wpAny _ _ _ _ _ _ _ (World.drew _)
 refine wpAny_take (i:=0) (v:=?_) rfl (by kernel_rfl) (by kernel_rfl) (by kernel_rfl) (fun _ _ _ h=>h) (Or.inl ⟨by rfl,?f0⟩) ?_
 case f0=>(intro w;go_simp;try with_reducible rfl)
 refine wpAny_take (i:=1) (v:=?_) rfl (by kernel_rfl) (by kernel_rfl) (by kernel_rfl) (fun _ _ _ h=>h) (Or.inl ⟨by rfl,?f1⟩) ?_
 case f1=>(intro w;go_simp;try with_reducible rfl)
 refine wpAny_take (i:=3) (v:=?_) rfl (by kernel_rfl) (by kernel_rfl) (by kernel_rfl) (fun _ _ _ h=>h) (Or.inl ⟨by rfl,?f3⟩) ?_
 case f3=>(intro w;go_simp;try with_reducible rfl)
 refine wpAny_take (i:=4) (v:=?_) rfl (by kernel_rfl) (by kernel_rfl) (by kernel_rfl) (fun _ _ _ h=>h) (Or.inl ⟨by rfl,?f4⟩) ?_
 case f4=>(intro w;go_simp;try with_reducible rfl)
 refine wpAny_take (i:=6) (v:=?_) rfl (by kernel_rfl) (by kernel_rfl) (by kernel_rfl) (fun _ _ _ h=>h) (Or.inl ⟨by rfl,?f6⟩) ?_
 case f6=>(intro w;go_simp;try with_reducible rfl)
 refine wpAny_take (i:=7) (v:=?_) rfl (by kernel_rfl) (by kernel_rfl) (by kernel_rfl) (fun _ _ _ h=>h) (Or.inl ⟨by rfl,?f7⟩) ?_
 case f7=>(intro w;go_simp;try with_reducible rfl)
 refine wpAny_ready (rs:=[2]) (by kernel_rfl) (by simp) ?_
 refine AllReady.cons rfl (fun K hK=>?_) AllReady.nil
 go_simp
 refine(unhide N0 _).mono ?_
 rintro e w' ⟨rfl,hw⟩
 obtain rfl:=hw.symm
 clear hw
 refine hK _ _ ?_
 clear hK K
 refine wpAny_ready (rs:=[5]) (by kernel_rfl) (by simp) ?_
 refine AllReady.cons rfl (fun K hK=>?_) AllReady.nil
 go_simp
 refine(unhide N1 _).mono ?_
 rintro e w' ⟨rfl,hw⟩
 obtain rfl:=hw.symm
 clear hw
 refine hK _ _ ?_
 clear hK K
 refine wpAny_ready (rs:=[8]) (by kernel_rfl) (by simp) ?_
 refine AllReady.cons rfl (fun K hK=>?_) AllReady.nil
 go_simp
 refine(unhide N2 _).mono ?_
 rintro e w' ⟨rfl,hw⟩
 obtain rfl:=hw.symm
 clear hw
 refine hK _ _ ?_
 clear hK K
 refine wpAny_take (i:=9) (v:=?_) rfl (by kernel_rfl) (by kernel_rfl) (by kernel_rfl) (fun _ _ _ h=>h) (Or.inl ⟨by rfl,?f9⟩) ?_
 case f9=>(intro w;go_simp;try with_reducible rfl)
 refine wpAny_ready (rs:=[10]) (by kernel_rfl) (by simp) ?_
 refine AllReady.cons rfl (fun K hK=>?_) AllReady.nil
 go_simp
 refine hK _ _ ?_
 clear hK K
 refine wpAny_done (by kernel_rfl) ?_ _
 go_wp2
 exact bodyPost_ret (v:=.agg #[.int .i64 (x0:Int),.int .i64 (x1:Int),.int .i64 (x2:Int),.int .i64 0,.int .i64 0,.int .i64 0,.int .i64 0,.int .i64 0,.slice none 0 0,.string ⟨#[]⟩]) (by simp[results,Tryz.results65,go_sem]) rfl ⟨rfl,(Zaf w _).drew⟩
def Zte(kd:Int)(s:ByteArray)(o l k z h:Int)(xs:List Nat)(t:ByteArray)(en:Nat):Prop:=
 (kd=1→(s.size≠0→en=3∧Zgm o l k z h xs t)∧(s.size=0→en=0∧Zgm o l k z h xs t))∧(kd=2→DecP s o l k z h xs t en)∧(kd≠1→kd≠2→en=3∧Zgm o l k z h xs t)
def ZAN(w:World)(kd:Int)(s:ByteArray)(e:Ending)(w':World):Prop:=
 ∃(o l k z h:Int) (a:Option Addr) (n c:Nat) (xs:List Nat) (t:ByteArray) (en:Nat),e=.returned (.tuple #[.agg #[.int .i64 o,.int .i64 l,.int .i64 k,.int .i64 z,.int .i64 h,.slice a n c,.string t],.int .i64 ((en:Nat):Int)])∧
  RowAt w' a n xs∧NewA w a n∧Zte kd s o l k z h xs t en∧Below w.heap.size w w'
theorem ZgS{kd:Int}{en:Nat}(h:Zte kd s 0 0 0 0 0 [] ⟨#[]⟩ en)(hb:Below w.heap.size w w'):
  ZAN w kd s (.returned (.tuple #[.agg #[.int .i64 0,.int .i64 0,.int .i64 0,.int .i64 0,.int .i64 0,.slice none 0 0,.string ⟨#[]⟩],.int .i64 ((en:Nat):Int)])) w':=
 ⟨0,0,0,0,0,none,0,0,[],⟨#[]⟩,en,rfl,ZbT _,Zhc _ _,h,hb⟩
theorem ZcX:Zgm 0 0 0 0 0 [] ⟨#[]⟩:=⟨rfl,rfl,rfl,rfl,rfl,rfl,rfl⟩
theorem ZcD{tmps:Array Value}{W:World}{x:Int}{u0 u1 u2 u3 u4 u5 u6:Value}(h2:tmps.getD 4 undef=.pointer (some ⟨g,0,none⟩))(h3:tmps.getD 5 undef=.int .i64 x)(hq:PkB W g u0 u1 u2 u3 u4 u5 u6):
  (results Tryz.f66 tmps).run Tryz.prog W=.ok (.tuple #[.agg #[u0,u1,u2,u3,u4,u5,u6],.int .i64 x]) W:=by
 obtain⟨k0,k1,k2,k3,k4,k5,k6⟩:=hq.at
 have h2':tmps[4]?.getD undef=.pointer (some ⟨g,0,none⟩):=by simpa using h2
 have h3':tmps[5]?.getD undef=.int .i64 x:=by simpa using h3
 simp[results,Tryz.results66,go_sem,h2',h3',k0,k1,k2,k3,k4,k5,k6]
theorem Zl1(h0:¬s.size=0):s.toList.isEmpty=false:=by
 have h:=Zgs s ⟨#[]⟩
 rw[decide_eq_false (fun h=>h0 (by rw[h];rfl))]at h
 simpa using h
theorem Zxa(kd:Int)(v0 v1 v2 v3 v4 v5 v6:Value)(s:ByteArray)(w:World)(hs:s.size≤140737488351232):
  Calls Tryz.prog 66 #[ZgI kd v0 v1 v2 v3 v4 v5 v6,.string s] w (ZAN w kd s):=by
 by_cases h1:kd=1
 ·subst h1
  rw[ZnA]
  have m1:=ZBh
  by_cases h0:s.size=0
  ·obtain rfl:s=⟨#[]⟩:=Zm7 h0
   go_enter Tryz.func66,Tryz.ntmps66
   go_wp2
   exact bodyPost_ret (ZcD rfl rfl (ZaG w (.int .i64 0) (.int .i64 0) (.int .i64 0) (.int .i64 0) (.int .i64 0) (.slice none 0 0) (.string ⟨#[]⟩))) rfl (ZgS (en:=0) ⟨fun _=>⟨fun h=>absurd rfl h,fun _=>⟨rfl,ZcX⟩⟩,fun h=>absurd h (by decide),fun h=>absurd rfl h⟩ (Zaf w _))
  ·have hq:=Zl1 h0
   have H0:=hide h0
   clear h0
   go_enter Tryz.func66,Tryz.ntmps66
   go_wp2
   exact bodyPost_ret (ZcD rfl rfl (ZaG w (.int .i64 0) (.int .i64 0) (.int .i64 0) (.int .i64 0) (.int .i64 0) (.slice none 0 0) (.string ⟨#[]⟩))) rfl (ZgS (en:=3) ⟨fun _=>⟨fun _=>⟨rfl,ZcX⟩,fun h=>absurd h (unhide H0)⟩,fun h=>absurd h (by decide),fun h=>absurd rfl h⟩ (Zaf w _))
 ·by_cases h2:kd=2
  ·subst h2
   rw[ZnD]
   have m1:=ZBo
   have m2:=ZyC
   have HD:=hide (fun wx=>Zxc s wx hs)
   have X4:=hide (ZaG w (.int .i64 0) (.int .i64 0) (.int .i64 0) (.int .i64 0) (.int .i64 0) (.slice none 0 0) (.string ⟨#[]⟩))
   have B0:=hide (Zaf w (.cells #[.int .i64 0,.int .i64 0,.int .i64 0,.int .i64 0,.int .i64 0,.slice none 0 0,.string ⟨#[]⟩] 59))
   clear hs
   go_enter Tryz.func66,Tryz.ntmps66
   go_wp2_with fail
   refine(unhide HD _).mono ?_
   rintro e w1 ⟨o,l,k,z,h,a,n,c,xs,t,en,rfl,hr,hna,hdec,hb1⟩
   have HNA:=hide (hna.mono (unhide B0).size)
   have X5:=hide ((unhide X4).below hb1)
   have B1:=hide (below0 (unhide B0) hb1)
   have HR:=hide hr
   have HP:=hide hdec
   clear hr hna hdec hb1 X4 B0 HD
   obtain⟨k0,k1,k2,k3,k4,k5,k6⟩:=(unhide X5).at
   have f:=(unhide X5).frz
   go_wp2
   have q:=hide ((unhide X5).sets (.int .i64 o) (.int .i64 l) (.int .i64 k) (.int .i64 z) (.int .i64 h) (.slice a n c) (.string t))
   have b:=hide (Zbd (unhide B1) (Nat.le_refl _) (.int .i64 o) (.int .i64 l) (.int .i64 k) (.int .i64 z) (.int .i64 h) (.slice a n c) (.string t))
   have r:=hide ((unhide HR).other7 ((unhide X5).apart (unhide HR)) (.int .i64 o) (.int .i64 l) (.int .i64 k) (.int .i64 z) (.int .i64 h) (.slice a n c) (.string t))
   exact bodyPost_ret (ZcD rfl rfl (unhide q)) rfl ⟨o,l,k,z,h,a,n,c,xs,t,en,rfl,unhide r,unhide HNA,⟨fun h=>absurd h (by decide),fun _=>unhide HP,fun _ h=>absurd rfl h⟩,unhide b⟩
  ·rw[ZrF h1 h2]
   have m1:=ZAS
   have m2:=ZAj
   go_enter Tryz.func66,Tryz.ntmps66
   go_wp2
   exact bodyPost_ret (ZcD rfl rfl (ZaG w (.int .i64 0) (.int .i64 0) (.int .i64 0) (.int .i64 0) (.int .i64 0) (.slice none 0 0) (.string ⟨#[]⟩))) rfl (ZgS (en:=3) ⟨fun h=>absurd h h1,fun h=>absurd h h2,fun _ _=>⟨rfl,ZcX⟩⟩ (Zaf w _))
end Go.Proofs.YtlhhinlghhjghaaGreatDoor
