/-
  The data of awake: what the pair's sink holds once two frames came; what it tells.
  Two nodes side by side: what is a node's is below the heap's end, and does not turn by what is done to its links.
  The chapter's example: bucketlinelaw25.awake tells true. Condition: the tables stand.
  The walk of bucketlinelaw25.awake. Condition: the tables stand.
-/
import Derived.Test.YtlhhinlghhjghaaGreatDoorU45
namespace Go.Proofs.YtlhhinlghhjghaaGreatDoor
open Go.RowKit Go.Sort
set_option linter.unusedVariables false
set_option linter.unusedSimpArgs false
set_option maxRecDepth 4000
set_option maxHeartbeats 8000000
variable {f:FRV}{now:Int}{fs fs':List FLV}{cs:List Value}{u:LkV→Int×List ByteArray×Nat}{n n':NDD}{en q x y B g g' B' C:Nat}{d:PD}{s:STD}{v v':Value}{w w0 w':World}
def encD(fr ic:Int)(d:PD):ByteArray:=ZhE 2 fr ic d.o d.l d.k d.z d.h d.xs d.s
theorem Zwm{fr ic:Int}(hx:smalls d.xs)(hf:0≤fr∧fr≤7)(hi:0≤ic∧ic≤4294967295)(hok:okD d=true){kd' fr' ic' o' l' k' z' h':Int}{ys:List Nat}{t:ByteArray}{en:Nat}
  (hd:ZfL (encD fr ic d) kd' fr' ic' o' l' k' z' h' ys t en):en=0∧(kd'=2∧fr'=fr∧ic'=ic)∧(o'=d.o∧l'=d.l∧k'=d.k∧z'=d.z∧h'=d.h)∧ys=d.xs∧t=d.s:=by
 obtain⟨F,hF⟩:∃F:Nat,fr=(F:Int):=⟨fr.toNat,by omega⟩
 obtain⟨I,hI⟩:∃I:Nat,ic=(I:Int):=⟨ic.toNat,by omega⟩
 have ho:=Zt5 (st (ZdE 2 fr ic (tx (Zgl 2 d.o d.l d.k d.z d.h d.xs d.s))))
 have hT:=hd.2 ho.1
 unfold encD ZhE at hT
 rw[ho.2]at hT
 obtain⟨hs,e1,e2,e3,e4⟩:=ZAM (kd:=2) (Zal (Zgl 2 d.o d.l d.k d.z d.h d.xs d.s)) (K:=2) rfl hF hI (by decide) (by omega) (by omega)
 have hb0:Zgl 2 d.o d.l d.k d.z d.h d.xs d.s=st (encL d.o d.l d.k d.z d.h d.xs (tx d.s)):=Zgx _ _ _ _ _ _ _
 rw[Zll]at e4
 generalize st (ZdE 2 fr ic (tx (Zgl 2 d.o d.l d.k d.z d.h d.xs d.s)))=T at*
 rw[hb0]at e4
 have hnb:¬badP T:=by
  rintro(h1|h1|h1)
  ·omega
  ·exact h1.2 e1
  ·omega
 obtain⟨x1,x2,x3⟩:=hT.2.2.2 (by omega) hnb (by omega)
 rw[e4]at x1
 obtain⟨d1,d2,d3⟩:=ZyL (t:=d.s) hx (Zcr.1 hok)
 obtain⟨u1,u2,u3,u4⟩:=x1.uniq (.inr (.inr ⟨d1,d2,rfl,d3⟩))
 obtain⟨y2,y3,y4⟩:=x3 u4
 exact⟨u4,⟨by rw[y2,e1];rfl,by rw[y3,e2,hF],by rw[y4,e3,hI]⟩,u1,u2,u3⟩
theorem ZrG{L:List Nat}(hf:FrP n L f)(he:emD n L=some d):f.enc=encD n.id n.inc d:=by
 obtain⟨a,b,c,e⟩:=hf
 rw[he]at c e
 have c':f.kd=2:=c
 have e':f.p.pd=d:=e
 subst e'
 show ZhE f.kd f.fr f.ic f.p.o f.p.l f.p.k f.p.z f.p.h f.p.r.xs f.p.r.s=ZhE 2 n.id n.inc f.p.o f.p.l f.p.k f.p.z f.p.h f.p.r.xs f.p.r.s
 rw[a,b,c']
theorem Zuw{L:List Nat}(hf:FrP n L f)(he:emD n L=none):f.enc.size=10:=by
 obtain⟨a,b,c,e⟩:=hf
 rw[he]at c
 have c':f.kd=1:=c
 unfold FRV.enc ZhE
 rw[c',Zgw,ZcQ,Zb1,Zg7]
 rfl
theorem Zgq{fr ic:Int}(hx:smalls d.xs)(hf:0≤fr∧fr≤7)(hi:0≤ic∧ic≤4294967295)(hok:okD d=true)(h:ZgK n (encD fr ic d) now en n'):en=0∧∃(q:PKV) (N:Nat) (rl:Option RLV) (dc:Option DCV),q.pd=d∧
  n'=n.setS ⟨n.s.lv,n.s.ls,n.s.gm,Zeo n.s.Z fr ic now,n.s.gc,n.s.gcm,N,Zgi (capN n.p.cache) n.s.P d,rl,dc⟩∧RlP (capN n.p.buffer) (Zbx n.s.P d) n.s.rl rl d∧DcP n.p.buffer (Zbx n.s.P d) n.s.dc dc q:=by
 obtain⟨kd,f,i,q,hd,hr⟩:=h
 obtain⟨h0,⟨h1,h2,h3⟩,⟨h4,h5,h6,h7,h8⟩,h9,h10⟩:=Zwm hx hf hi hok hd
 have hq:q.pd=d:=by
  show(⟨q.o,q.l,q.k,q.z,q.h,q.r.xs,q.r.s⟩:PD)=d
  rw[h4,h5,h6,h7,h8,h9,h10]
 rcases hr with⟨hr,_⟩|⟨_,N,rl,dc,e1,e2,e3⟩
 ·exact absurd h0 hr
 ·refine⟨h0,q,N,rl,dc,hq,?_,?_,?_⟩
  ·rw[e1,h1,h2,h3,hq,if_pos rfl]
  ·rw[h1,hq,decide_eq_true rfl,Bool.true_and]at e2
   exact e2
  ·rw[h1,hq,decide_eq_true rfl,Bool.true_and]at e3
   exact e3
def pk1:PD:=⟨0,2,2,1,0,[1],⟨#[97]⟩⟩
def pk2:PD:=⟨0,2,2,1,0,[2],⟨#[98]⟩⟩
def dsA:DS:=⟨true,0,2,2,1,[([1],⟨#[97]⟩)],false,false,⟨#[]⟩⟩
def dsB(ob:ByteArray):DS:=⟨true,0,2,2,1,[([1],⟨#[97]⟩),([2],⟨#[98]⟩)],false,true,ob⟩
theorem ZzS{q:PKV}(h:q.pd=pk1)(ob:ByteArray):dput 4 zDS q ob=dsA:=by
 obtain⟨o,l,k,z,hh,a,n,c,xs,s⟩:=q
 simp only[PKV.pd,pk1,PD.mk.injEq]at h
 obtain⟨rfl,rfl,rfl,rfl,rfl,rfl,rfl⟩:=h
 kernel_rfl
theorem Zuv{q:PKV}(h:q.pd=pk2)(ob:ByteArray):dput 4 dsA q ob=dsB ob:=by
 obtain⟨o,l,k,z,hh,a,n,c,xs,s⟩:=q
 simp only[PKV.pd,pk2,PD.mk.injEq]at h
 obtain⟨rfl,rfl,rfl,rfl,rfl,rfl,rfl⟩:=h
 kernel_rfl
theorem ZAf{q:PKV}(h:q.pd=pk2):TruP ⟨#[97,98]⟩ 1 q:=by
 obtain⟨o,l,k,z,hh,a,n,c,xs,s⟩:=q
 simp only[PKV.pd,pk2,PD.mk.injEq]at h
 obtain⟨rfl,rfl,rfl,rfl,rfl,rfl,rfl⟩:=h
 exact⟨by kernel_rfl,rfl,by kernel_rfl,rfl,by kernel_rfl⟩
theorem tr_one:TrS ⟨#[97,98]⟩ 1 dsA:=by
 refine⟨fun _=>⟨rfl,by kernel_rfl,rfl⟩,fun x hx=>?_,fun e=>by cases e⟩
 have e:x=([1],⟨#[97]⟩):=List.mem_singleton.1 hx
 subst e
 exact⟨by kernel_rfl,fun y hy=>by cases List.mem_singleton.1 hy;exact(by decide:(1:Nat)<18446744073709551616),by decide,by decide⟩
theorem Zzt:DInv dsA:=by
 refine⟨rfl,⟨⟨⟨by decide,by decide⟩,by decide,by decide⟩,by decide,by decide⟩,fun x hx=>?_,⟨(fun e=>by cases e),fun e=>?_⟩,fun _=>rfl,by decide⟩
 ·have e:x=([1],⟨#[97]⟩):=List.mem_singleton.1 hx
  rw[e]
  exact(show fitB 2 1 ([1],⟨#[97]⟩)=true by kernel_rfl)
 ·have:(ZcB dsA.L:Int)=1:=by kernel_rfl
  rw[this]at e
  exact absurd e (by decide)
theorem ZuL{q:PKV}{ob:ByteArray}(h:q.pd=pk2)(hT:admB dsA q=true→Zej 4 (begS dsA q) (q.r.xs,q.r.s) ob):ob=⟨#[97,98]⟩:=by
 have hx:q.r.xs=[2]∧q.r.s=⟨#[98]⟩:=by
  have e1:q.pd.xs=[2]:=by rw[h];rfl
  have e2:q.pd.s=⟨#[98]⟩:=by rw[h];rfl
  exact⟨e1,e2⟩
 have:=tr_one.put (fun _=>Zzt) (by decide) (ZAf h) ⟨by rw[hx.1];exact fun y hy=>by cases List.mem_singleton.1 hy;exact(by decide:(2:Nat)<18446744073709551616),by rw[hx.2];decide,by rw[hx.1];decide⟩ hT
 rw[Zuv h]at this
 exact this.told rfl
theorem ZjY{ls:List LkV}:∀{k:Nat},(∀i,i<k→(ls.getD i .dflt).L=[])→Zfa ls k=0
 |0,_=>rfl
 |k+1,h=>by
  show Zfa ls k+(ls.getD k .dflt).L.length=0
  rw[ZjY fun i hi=>h i (by omega),h k (by omega)]
  rfl
theorem ZyG(h:NewP n.p n.s)(hk:n.p.kd≠2)(ht:(allZ (ZcY n.p.timeout) (List.replicate 16 0) 4).length=0):repC n 4=[.int .i64 (n.inc:Int),.int .i64 0,.int .i64 0,.int .i64 0,.int .i64 0,.bool false,.string ⟨#[]⟩]:=by
 obtain⟨⟨h1,h2,h3,h4⟩,h5⟩:=h
 have hq:Zfa n.s.ls n.s.ls.length=0:=ZjY fun i hi=>(h1 i hi).2.1
 have hd:kR n.s=0∧kD n.s=0∧rD n.s=0∧dnD n.s=false∧obD n.s=⟨#[]⟩:=by
  unfold kR kD rD dnD obD
  rcases h5 with⟨a,_⟩|⟨a,b,d,c,e,_⟩|⟨a,b,c,d⟩
  ·exact absurd a hk
  ·obtain⟨g',s',gs',v',rs'⟩:=d
   have e':s'=zDS:=e
   subst e'
   rw[b,c]
   exact⟨rfl,rfl,by kernel_rfl,rfl,rfl⟩
  ·rw[c,d]
   exact⟨rfl,rfl,rfl,rfl,rfl⟩
 unfold repC
 rw[hq,hd.1,hd.2.1,hd.2.2.1,hd.2.2.2.1,hd.2.2.2.2,h2,ht]
 rfl
theorem ZzP(hn:NewP n.p n.s)(h1:n.s.ls.length=1)(hq:n.p.queue=4)(e1 e2:ByteArray):
  Zef ((n.each (actU n.p.queue e1)).each (actU n.p.queue e2)) 1=[⟨(n.id:Int),n.p.tos.getD 0 0,e1⟩,⟨(n.id:Int),n.p.tos.getD 0 0,e2⟩]:=by
 obtain⟨⟨hl,_⟩,_⟩:=hn
 obtain⟨l,e⟩:∃l,n.s.ls=[l]:=List.length_eq_one_iff.1 h1
 obtain⟨a,b,c⟩:=hl 0 (by omega)
 rw[e]at a b c
 have a':l.lv=1000*wiZ n.p.queue 1 256:=a
 have b':l.L=[]:=b
 rw[hq]at a'
 have a2:l.lv=4000:=a'.trans (by decide)
 have hs1:updL (actU 4 e1) l=l.now 4000 [e1] l.lo:=by
  unfold updL actU
  rw[b',a2]
  rfl
 have hs2:updL (actU 4 e2) (l.now 4000 [e1] l.lo)=l.now 4000 [e1,e2] l.lo:=rfl
 have hls:((n.each (actU n.p.queue e1)).each (actU n.p.queue e2)).s.ls=[l.now 4000 [e1,e2] l.lo]:=by
  show(n.s.ls.map (updL (actU n.p.queue e1))).map (updL (actU n.p.queue e2))=_
  rw[e,hq,List.map_cons,List.map_nil,List.map_cons,List.map_nil,hs1,hs2]
 show []++flyL _ 0 (flyN _ 0)=_
 unfold flyL flyN
 rw[hls]
 rfl
theorem Zyr(hl:∀i,i<n.s.ls.length→(n.s.ls.getD i .dflt).lv=1000*wiZ n.p.queue 1 256∧(n.s.ls.getD i .dflt).L=[]∧(n.s.ls.getD i .dflt).lo=0)(h1:n.s.ls.length=1)(hq:n.p.queue=4)(e1:ByteArray):
  Zef (n.each (actU n.p.queue e1)) 1=[⟨(n.id:Int),n.p.tos.getD 0 0,e1⟩]:=by
 obtain⟨l,e⟩:∃l,n.s.ls=[l]:=List.length_eq_one_iff.1 h1
 obtain⟨a,b,c⟩:=hl 0 (by omega)
 rw[e]at a b c
 have a':l.lv=1000*wiZ n.p.queue 1 256:=a
 have b':l.L=[]:=b
 rw[hq]at a'
 have a2:l.lv=4000:=a'.trans (by decide)
 have hs1:updL (actU 4 e1) l=l.now 4000 [e1] l.lo:=by
  unfold updL actU
  rw[b',a2]
  rfl
 have hls:(n.each (actU n.p.queue e1)).s.ls=[l.now 4000 [e1] l.lo]:=by
  show n.s.ls.map (updL (actU n.p.queue e1))=_
  rw[e,hq,List.map_cons,List.map_nil,hs1]
 show []++flyL _ 0 (flyN _ 0)=_
 unfold flyL flyN
 rw[hls]
 rfl
theorem ZyP{d:DCV}(h:s.dc=some d):rD s=ZcB d.s.L:=by unfold rD;rw[h]
theorem Zvi{d:DCV}(h:s.dc=some d):dnD s=d.s.dn:=by unfold dnD;rw[h]
theorem Zwk{d:DCV}(h:s.dc=some d):obD s=d.s.ob:=by unfold obD;rw[h]
theorem ZnT{a:Nat}{n1 n2:NDD}{en1 en2:Nat}(h:NewN (Zdc a x y) 1 n)(h1:ZgK n (encD 0 0 pk1) 3 en1 n1)(h2:ZgK n1 (encD 0 0 pk2) 3 en2 n2):
  (en1=0∧en2=0)∧n2.id=1∧n2.inc=0∧n2.p=n.p∧n2.src=n.src∧n2.s.ls=n.s.ls∧n2.t=n.t+2∧n2.s.rl=none∧(allZ (ZcY n2.p.timeout) n2.s.Z 4).length=1∧rD n2.s=2∧dnD n2.s=true∧obD n2.s=⟨#[97,98]⟩:=by
 obtain⟨⟨c1,c2,c3,c4⟩,hst⟩:=h.new
 have hk:n.p.kd=3:=h.kd.trans rfl
 have hcache:capN n.p.cache=4:=by rw[h.cache];exact(by decide:capN 4=4)
 have hbuf:n.p.buffer=4:=h.buffer
 obtain⟨hrl,d,hdc,hz⟩:n.s.rl=none∧∃d,n.s.dc=some d∧d.s=zDS:=by
  rcases hst with⟨u,_⟩|⟨_,b,d,c,e,_⟩|⟨_,u,_⟩
  ·omega
  ·exact⟨b,d,c,e⟩
  ·exact absurd hk u
 obtain⟨z1,q1,N1,r1,o1,p1,e1,f1,g1⟩:=Zgq (d:=pk1) (fun y hy=>by cases List.mem_singleton.1 hy;exact(by decide:(1:Nat)<18446744073709551616)) (by decide) (by decide) (by kernel_rfl) h1
 rw[c4]at g1 f1 e1
 have fr1:Zbx [] pk1=true:=by kernel_rfl
 rw[fr1]at g1 f1
 rw[hbuf,hdc]at g1
 obtain⟨d1,i1,_,_,j1⟩:=g1.2 d rfl
 obtain⟨ob1,k1,_⟩:=j1 rfl
 rw[hz,ZzS p1]at k1
 have r1n:r1=none:=f1.1 hrl
 rw[hcache]at e1
 subst e1
 obtain⟨z2,q2,N2,r2,o2,p2,e2,f2,g2⟩:=Zgq (d:=pk2) (fun y hy=>by cases List.mem_singleton.1 hy;exact(by decide:(2:Nat)<18446744073709551616)) (by decide) (by decide) (by kernel_rfl) h2
 have fr2:Zbx (Zgi 4 [] pk1) pk2=true:=by kernel_rfl
 have g2':DcP n.p.buffer (Zbx (Zgi 4 [] pk1) pk2) o1 o2 q2:=g2
 have f2':RlP (capN n.p.buffer) (Zbx (Zgi 4 [] pk1) pk2) r1 r2 pk2:=f2
 rw[fr2,hbuf,i1]at g2'
 rw[fr2]at f2'
 obtain⟨d2,i2,_,_,j2⟩:=g2'.2 d1 rfl
 obtain⟨ob2,k2,t2⟩:=j2 rfl
 rw[k1]at k2 t2
 rw[Zuv p2,ZuL p2 t2]at k2
 have r2n:r2=none:=f2'.1 r1n
 subst e2
 refine⟨⟨z1,z2⟩,h.id,h.inc,rfl,rfl,rfl,rfl,r2n,?_,?_,?_,?_⟩
 ·show(allZ (ZcY n.p.timeout) (Zeo (Zeo n.s.Z 0 0 3) 0 0 3) 4).length=1
  rw[c2,h.timeout]
  kernel_rfl
 ·exact(ZyP i2).trans (by rw[k2];kernel_rfl)
 ·exact(Zvi i2).trans (by rw[k2];rfl)
 ·exact(Zwk i2).trans (by rw[k2];rfl)
theorem Ziu{T:TypeId}{sz n:Nat}(h:w.ownsRow B T sz v n cs){j:Nat}(hj:v.ownBlock=some j):j<w.heap.size:=(ZbL h hj).2
theorem NdAt.lt(h:NdAt w g B n):∀j,ndF g n j→j<w.heap.size:=fun j hj=>by
 rcases hj with rfl|hj|⟨r,hr,rfl|hj⟩|hj
 ·exact h.blk.lt
 ·exact Ziu h.tos hj
 ·exact(h.src r hr).blk.lt
 ·exact Ziu (h.src r hr).own hj
 ·exact h.st.lt j hj
theorem ZyB:∀j,ndF g (n.each u) j→ndF g n j:=fun j hj=>by
 rcases hj with hj|hj|hj|hj
 ·exact .inl hj
 ·exact .inr (.inl hj)
 ·exact .inr (.inr (.inl hj))
 ·refine .inr (.inr (.inr ?_))
  rcases hj with hj|⟨i,hi,hj⟩|hj
  ·exact .inl hj
  ·have hi':i<(n.s.ls.map (updL u)).length:=hi
   rw[List.length_map]at hi'
   refine .inr (.inl ⟨i,hi',?_⟩)
   have e:((n.s.ls.map (updL u)).getD i .dflt).F j:=hj
   rw[←ZgP u (Nat.le_refl n.s.ls.length),Zg0 u _ _ _ hi',if_pos hi']at e
   exact e
  ·exact .inr (.inr hj)
theorem Zjz:(n.each u).s.ls.length=n.s.ls.length:=by
 show(n.s.ls.map (updL u)).length=_
 rw[List.length_map]
theorem NdAt.lows(h:NdAt w g B n)(hb:Below w0.heap.size w0 w)(hB:w0.heap.size≤B)(ht:Tu (ndF g n) w w'):Below w0.heap.size w0 w':=
 hb.trans (ht.below hb.size fun j hj hf=>by have:=h.low j hf;omega)
structure TwoN(w0 w:World)(g B:Nat)(n:NDD)(g' B':Nat)(n':NDD):Prop where
 a:NdAt w g B n
 b:NdAt w g' B' n'
 low:Below w0.heap.size w0 w
 ord:w0.heap.size≤B∧B≤B'
 apart:∀j,ndF g n j→j<B'
theorem TwoN.below(h:TwoN w0 w g B n g' B' n')(hb:Below w.heap.size w w'):TwoN w0 w' g B n g' B' n':=⟨h.a.below hb,h.b.below hb,below0 h.low hb,h.ord,h.apart⟩
theorem TwoN.fst(h:TwoN w0 w g B n g' B' n')(ha:NdAt w' g B (n.each u))(ht:Tu (ndF g n) w w'):TwoN w0 w' g B (n.each u) g' B' n':=
 ⟨ha,h.b.tu ht (fun j hj e=>by have:=h.b.low j hj;have:=h.apart j e;omega) fun j hk e=>(h.a.nk j e).2 hk,h.a.lows h.low h.ord.1 ht,h.ord,fun j hj=>h.apart j (ZyB j hj)⟩
theorem TwoN.tabs(h:TwoN w0 w g B n g' B' n')(ht:Tabs w0)(wx:World)(hb:Below B w wx):Tabs wx:=ht.below (h.low.trans (hb.mono h.ord.1))
structure NdG(w0 w:World)(g B:Nat)(n:NDD)(v:Value)(fs:List FLV):Prop where
 b:NdAt w g B n
 low:Below w0.heap.size w0 w
 ord:w0.heap.size≤B
 fly:OwnG w w0.heap.size v fs
theorem NdG.below(h:NdG w0 w g B n v fs)(hb:Below w.heap.size w w'):NdG w0 w' g B n v fs:=⟨h.b.below hb,below0 h.low hb,h.ord,h.fly.below hb⟩
theorem NdG.tu(h:NdG w0 w g B n v fs)(hb:NdAt w' g B n')(ht:Tu (ndF g n) w w'):NdG w0 w' g B n' v fs:=
 ⟨hb,h.b.lows h.low h.ord ht,h.ord,Zam h.fly ht fun j hj e=>(h.b.nk j e).1 (Zah h.fly hj)⟩
theorem NdG.tabs(h:NdG w0 w g B n v fs)(ht:Tabs w0)(wx:World)(hb:Below B w wx):Tabs wx:=ht.below (h.low.trans (hb.mono h.ord))
theorem ZsE(w:World)(x y:Nat)(hx:x<18446744073709551616)(hy:y<18446744073709551616):RowAt (w.alloc (.cells #[.int .u64 (x:Int),.int .u64 (y:Int)] 69)) (some ⟨w.heap.size,0,none⟩) 2 [x,y]:=by
 have h:=Zag 69 w [.int .u64 (x:Int),.int .u64 (y:Int)]
 refine⟨rfl,fun z hz=>?_,.inr ⟨_,0,rfl,fun i hi=>?_⟩⟩
 ·simp only[List.mem_cons,List.not_mem_nil,or_false]at hz
  rcases hz with rfl|rfl
  ·exact hx
  ·exact hy
 ·obtain rfl|rfl:i=0∨i=1:=by omega
  ·exact h.at 0 rfl
  ·exact h.at 1 rfl
theorem Zgo{a:Nat}{i:Nat}(hi:i<2)(hn:NewN (Zdc a x y) i n)(h:NdAt w g B n):n.s.ls.length=1:=by
 have h1:=h.num.2.1
 rw[hn.tos]at h1
 obtain rfl|rfl:i=0∨i=1:=by omega
 ·exact h1
 ·exact h1
theorem Zeb{a:Nat}(h:NewN (Zdc a x y) 0 n):∀r,n.src=some r→SrcOk n.id r:=fun r hr=>by
 obtain⟨g,v,e⟩:=Zn7 h
 rw[e]at hr
 cases hr
 rw[h.id]
 exact Zz0 g v
theorem Zlk{a:Nat}(hn:NewN (Zdc a x y) 1 n)(h:NdAt w g B n):n.p.kd=3∧n.src=none∧n.s.rl=none:=by
 have hk:n.p.kd=3:=hn.kd.trans rfl
 rcases h.kd with⟨k,_⟩|⟨k,_⟩|⟨_,b,c,_⟩
 ·omega
 ·omega
 ·exact⟨hk,b,c⟩
theorem ZxI{a:Nat}{f1 f2:FRV}(hn:NewN (Zdc a x y) 0 n)(h:NdAt w g B n)(h1:FrP n [0,0] f1)(h2:FrP (n.each (actU n.p.queue f1.enc)) [0,1] f2):
  Zef ((n.each (actU n.p.queue f1.enc)).each (actU n.p.queue f2.enc)) 1=[⟨0,1,encD 0 0 pk1⟩,⟨0,1,encD 0 0 pk2⟩]∧(encD 0 0 pk1).size≤1048576∧(encD 0 0 pk2).size≤1048576:=by
 have e1:=ZrG h1 (Zq1 hn).1
 have e2:f2.enc=encD n.id n.inc pk2:=ZrG (n:=n.each (actU n.p.queue f1.enc)) h2 (Zq1 hn).2
 rw[hn.id,hn.inc]at e1 e2
 have hs:=ZzP hn.new (Zgo (by decide) hn h) (hn.queue.trans rfl) f1.enc f2.enc
 rw[hs,hn.id,hn.tos,e1,e2]
 have hid:n.id≤7:=by rw[hn.id];decide
 have s1:=FRV.enc_size (FrP.ok h hid (Zeb hn) h1).1
 rw[e1]at s1
 have k1:f2.ok:=by
  refine(FrP.ok (f:=f2) (L:=[0,1]) h hid (Zeb hn) ?_).1
  exact h2
 have s2:=FRV.enc_size k1
 rw[e2]at s2
 exact⟨rfl,s1,s2⟩
structure SkJ(w0 wr:World)(g B k:Nat)(n0:NDD)(v:Value)(n':NDD):Prop where
 nd:NdG w0 wr g B n' v [⟨0,1,encD 0 0 pk1⟩,⟨0,1,encD 0 0 pk2⟩]
 tm:n'.t≤n0.t+k
 zero:k=0→n'=n0
 one:k=1→∃en,ZgK n0 (encD 0 0 pk1) 3 en n'
 two:k=2→∃n1 en en',ZgK n0 (encD 0 0 pk1) 3 en n1∧ZgK n1 (encD 0 0 pk2) 3 en' n'
theorem ZAw{s:ByteArray}(h:ZgK n s now en n'):n'.t≤n.t+1:=by
 obtain⟨kd,fr,ic,q,hd,⟨_,hr⟩|⟨_,N,rl,dc,hr,_⟩⟩:=h
 ·subst hr;exact Nat.le_refl _
 ·subst hr;exact Nat.le_refl _
theorem Zzr(hd:d=pk1∨d=pk2)(h:ZgK n (encD 0 0 d) now en n'):en=0:=by
 rcases hd with rfl|rfl
 ·exact(Zgq (d:=pk1) (fun y hy=>by cases List.mem_singleton.1 hy;exact(by decide:(1:Nat)<18446744073709551616)) (by decide) (by decide) (by kernel_rfl) h).1
 ·exact(Zgq (d:=pk2) (fun y hy=>by cases List.mem_singleton.1 hy;exact(by decide:(2:Nat)<18446744073709551616)) (by decide) (by decide) (by kernel_rfl) h).1
theorem Zwl{wx:World}{a:Nat}{n0 n1 n2:NDD}{en':Nat}(hn:NewN (Zdc a x y) 1 n0)(h:NdAt w g B n0)(h1:ZgK n0 (encD 0 0 pk1) 3 en n1)(h2:ZgK n1 (encD 0 0 pk2) 3 en' n2)(hf:FrP n2 [] f):
  (f.enc.size=10∧Zef (n2.each (actU n2.p.queue f.enc)) 1=[⟨1,0,f.enc⟩])∧∃kp qd:Nat,repC ((n2.each (actU n2.p.queue f.enc)).each Zcc) 4=[.int .i64 0,.int .i64 (kp:Int),.int .i64 2,.int .i64 (qd:Int),.int .i64 1,.bool true,.string ⟨#[97,98]⟩]:=by
 obtain⟨_,k1,k2,k3,k4,k5,k6,k7,k8,k9,k10,k11⟩:=ZnT hn h1 h2
 obtain⟨s1,s2,s3⟩:=Zlk hn h
 have hl:n2.s.ls.length=1:=by rw[k5];exact Zgo (by decide) hn h
 refine⟨⟨Zuw hf (Zzn (k4.trans s2) k7 []),?_⟩,?_⟩
 ·have e:=Zyr (n:=n2) (fun i hi=>?_) hl (by rw[k3];exact hn.queue.trans rfl) f.enc
  ·rw[e,k1,k3,hn.tos]
   rfl
  ·rw[k5]at hi⊢
   rw[k3]
   exact hn.new.1.1 i hi
 ·refine⟨kR ((n2.each (actU n2.p.queue f.enc)).each Zcc).s+kD ((n2.each (actU n2.p.queue f.enc)).each Zcc).s,Zfa ((n2.each (actU n2.p.queue f.enc)).each Zcc).s.ls ((n2.each (actU n2.p.queue f.enc)).each Zcc).s.ls.length,?_⟩
  have r1:kR ((n2.each (actU n2.p.queue f.enc)).each Zcc).s=0:=by
   show kR n2.s=0
   unfold kR
   rw[k7]
  have r2:rD ((n2.each (actU n2.p.queue f.enc)).each Zcc).s=2:=k9
  have r3:dnD ((n2.each (actU n2.p.queue f.enc)).each Zcc).s=true:=k10
  have r4:obD ((n2.each (actU n2.p.queue f.enc)).each Zcc).s=⟨#[97,98]⟩:=k11
  have r5:(allZ (ZcY ((n2.each (actU n2.p.queue f.enc)).each Zcc).p.timeout) ((n2.each (actU n2.p.queue f.enc)).each Zcc).s.Z 4).length=1:=k8
  have r6:((n2.each (actU n2.p.queue f.enc)).each Zcc).inc=0:=k2
  unfold repC
  rw[r2,r3,r4,r5,r6]
  rw[show kR ((n2.each (actU n2.p.queue f.enc)).each Zcc).s+2=2 by rw[r1]]
  rfl
theorem Zy8{w1 w2 w3 w4:World}{ga gb:Nat}{na nb:NDD}(h1:Below w.heap.size w w1)(ha:NdAt w2 ga w1.heap.size na)(h2:Below w1.heap.size w1 w2)(h3:Below w2.heap.size w2 w3)(hb:NdAt w4 gb w3.heap.size nb)(h4:Below w3.heap.size w3 w4):TwoN w w4 ga w1.heap.size na gb w3.heap.size nb:=
 ⟨(ha.below h3).below h4,hb,below0 (below0 (below0 h1 h2) h3) h4,⟨h1.size,Nat.le_trans h2.size h3.size⟩,fun j hj=>Nat.lt_of_lt_of_le (ha.lt j hj) h3.size⟩
theorem TwoN.last(h:TwoN w0 w g B n g' B' n'){v:Value}{fs:List FLV}{u:LkV→Int×List ByteArray×Nat}(ho:OwnG w' w.heap.size v fs)(ha:NdAt w' g B (n.each u))(ht:Tu (ndF g n) w w'):NdG w0 w' g' B' n' v fs:=
 ⟨(h.fst ha ht).b,(h.fst ha ht).low,Nat.le_trans h.ord.1 h.ord.2,ZdR ho h.low.size⟩
theorem NdAt.nr(h:NdAt w g B n):∀j,ndF g n j→kdB w j≠40+2:=fun j hj=>by
 rcases hj with rfl|hj|⟨r,hr,hj⟩|hj
 ·have:=h.blk.kd;omega
 ·have:=Zah h.tos hj;omega
 ·have:=(h.src r hr).kd j hj;omega
 ·have:=h.st.kd j hj;omega
theorem NdG.store(h:NdG w0 w g B n v fs)(ho:OwnG w C v' fs'){cs:List Value}(hx:BkA 40 w q cs)(ht:Tu (fun j=>j=q) w w')(hq:w0.heap.size≤q):NdG w0 w' g B n v fs∧OwnG w' C v' fs':=by
 have hk:=hx.kd
 refine⟨⟨h.b.tu ht (fun j hj e=>?_) fun j hj e=>?_,Ze2 h.low ht hq,h.ord,Zam h.fly ht fun j hj e=>?_⟩,Zam ho ht fun j hj e=>?_⟩
 ·subst e
  exact h.b.nr j hj hk
 ·subst e;omega
 ·have:=Zah h.fly hj;subst e;omega
 ·have:=Zah ho hj;subst e;omega
structure EndJ(w0 w:World)(g B C q:Nat)(n:NDD)(v:Value)(fs:List FLV)(v':Value)(fs':List FLV)(cs:List Value):Prop where
 nd:NdG w0 w g B n v fs
 fly:OwnG w C v' fs'
 box:BkA 40 w q cs
theorem EndJ.store(h:NdG w0 w g B n v fs)(ho:OwnG w C v' fs'){cs cs':List Value}(hx:BkA 40 w q cs)(ht:Tu (fun j=>j=q) w w')(hq:w0.heap.size≤q)(hx':BkA 40 w' q cs'):EndJ w0 w' g B C q n v fs v' fs' cs':=
 ⟨(h.store ho hx ht hq).1,(h.store ho hx ht hq).2,hx'⟩
theorem EndJ.tu(h:EndJ w0 w g B C q n v fs v' fs' cs)(hb:NdAt w' g B n')(ht:Tu (ndF g n) w w'):EndJ w0 w' g B C q n' v fs v' fs' cs:=
 ⟨h.nd.tu hb ht,Zam h.fly ht fun j hj e=>(h.nd.b.nk j e).1 (Zah h.fly hj),h.box.tu ht fun e=>h.nd.b.nr _ e h.box.kd⟩
theorem EndJ.below(h:EndJ w0 w g B C q n v fs v' fs' cs)(hb:Below w.heap.size w w'):EndJ w0 w' g B C q n v fs v' fs' cs:=
 ⟨h.nd.below hb,h.fly.below hb,h.box.below hb⟩
theorem EndJ.more{p:Nat}{cs':List Value}(h:EndJ w0 w g B C q n v fs v' fs' cs)(hx:BkA 40 w p cs')(ht:Tu (fun j=>j=p) w w')(hp:w0.heap.size≤p)(hqp:q≠p):EndJ w0 w' g B C q n v fs v' fs' cs:=
 ⟨(h.nd.store h.fly hx ht hp).1,(h.nd.store h.fly hx ht hp).2,h.box.tu ht hqp⟩
theorem ZmD (w : World) (ht : Tabs w) : Calls Tryz.prog 9 #[] w fun e w' => e = .returned (.bool true) ∧ Below w.heap.size w w' := by
  have HT := hide ht
  clear ht
  have FA := hide True.intro
  have FB := hide True.intro
  have FC := hide True.intro
  have FD := hide True.intro
  have FE := hide True.intro
  go_enter Tryz.func9, Tryz.ntmps9
  go_wp2_with (first
    | (clear FA; go_at_call 26; refine (Znt _).mono ?_; rintro e w1 ⟨a1, x1, y1, rfl, hn1, hb1⟩; have HN1 := hide (show Calls Tryz.prog 10 #[(Zdc a1 x1 y1).val, .int .i64 0] w1 _ from Zks (Zdc a1 x1 y1) 0 w1 (ZxL hn1).1); have HB1 := hide hb1; clear hn1 hb1)
    | (clear FB; go_at_call 10; refine (unhide HN1).mono ?_; rintro e w2 ⟨ga, na, rfl, ha2, hna, hb2⟩; have HA2 := hide ha2; have HNA := hide hna; have HB2 := hide hb2; clear ha2 hna hb2 HN1)
    | (clear FC; go_at_call 26; refine (Znt _).mono ?_; rintro e w3 ⟨a2, x2, y2, rfl, hn3, hb3⟩; have HN3 := hide (show Calls Tryz.prog 10 #[(Zdc a2 x2 y2).val, .int .i64 1] w3 _ from Zks (Zdc a2 x2 y2) 1 w3 (ZxL hn3).2); have HB3 := hide hb3; clear hn3 hb3)
    | (clear FD; go_at_call 10; refine (unhide HN3).mono ?_; rintro e w4 ⟨gb, nb, rfl, hb4, hnb, hbb4⟩; have HNB := hide hnb; have HW4 := hide (Zy8 (unhide HB1) (unhide HA2) (unhide HB2) (unhide HB3) hb4 hbb4); clear hb4 hnb hbb4 HN3 HA2 HB1 HB2 HB3)
    | (clear FE; go_at_call 12; refine (ZgF ga _ na _ 2 2 [0, 0] 1 _ ((unhide HW4).below (alloc_low _ _)).a (((unhide HW4).below (alloc_low _ _)).tabs (unhide HT)) (Zeb (unhide HNA)) (by rw [(unhide HNA).id]; decide) (ZsE _ 0 0 (by decide) (by decide)) (by decide) (by rw [(unhide HNA).tm]; decide)).mono ?_; rintro e w5 ⟨rfl, f1, hf1, ha5, ht5, -⟩; have HF1 := hide hf1; have HW5 := hide (((unhide HW4).below (alloc_low _ _)).fst ha5 ht5); clear hf1 ha5 ht5)
    | fail)
  refine (ZgF ga _ (na.each (actU na.p.queue f1.enc)) _ 2 2 [0, 1] 1 _ ((unhide HW5).below (alloc_low _ _)).a (((unhide HW5).below (alloc_low _ _)).tabs (unhide HT)) (show ∀ r, na.src = some r → SrcOk na.id r from Zeb (unhide HNA)) (by show na.id ≤ 7; rw [(unhide HNA).id]; decide) (ZsE _ 0 1 (by decide) (by decide)) (by decide) (by show na.t + 1 < 1099511627776; rw [(unhide HNA).tm]; decide)).mono ?_
  rintro e w6 ⟨rfl, f2, hf2, ha6, ht6, -⟩
  have HF2 := hide hf2
  have HW6 := hide (((unhide HW5).below (alloc_low _ _)).fst ha6 ht6)
  clear hf2 ha6 ht6
  go_wp2_with fail
  refine (Zit ga _ _ _ (unhide HW6).a).mono ?_
  rintro e w7 ⟨v, rfl, ho7, ha7, ht7⟩
  have hll : ((na.each (actU na.p.queue f1.enc)).each (actU (na.each (actU na.p.queue f1.enc)).p.queue f2.enc)).s.ls.length = 1 := by
    rw [Zjz, Zjz]
    have := (unhide HW4).a
    exact Zgo (by decide) (unhide HNA) this
  rw [hll] at ho7
  obtain ⟨e1, e2, e3⟩ := ZxI (unhide HNA) (unhide HW4).a (unhide HF1) (unhide HF2)
  replace ho7 : OwnG w7 _ v (Zef ((na.each (actU na.p.queue f1.enc)).each (actU na.p.queue f2.enc)) 1) := ho7
  rw [e1] at ho7
  have HG := hide ((unhide HW6).last ho7 ha7 ht7)
  obtain ⟨gv, cv, rfl, hcv⟩ := ho7.at (by decide)
  have hc0 := (hcv 0 (by decide)).2.2
  have HB0 := hide (unhide HW4).b
  have HS := hide (show SkJ w w7 gb w3.heap.size 0 nb (.slice (some ⟨gv, 0, none⟩) 2 cv) nb from ⟨unhide HG, Nat.le_refl _, (fun _ => rfl), (fun e => absurd e (by decide)), (fun e => absurd e (by decide))⟩)
  clear hcv ho7 ha7 ht7 HW5 HW6 HW4 HF1 HF2 hll e1 hc0 HG
  go_wp2_with fail
  go_loopw [4] (fun i wr => ∃ k n', k ≤ 2 ∧ i = .int .i64 (k : Nat) ∧ Hid (SkJ w wr gb w3.heap.size k nb (.slice (some ⟨gv, 0, none⟩) 2 cv) n')) (fun i _ => 2 - (intOf i).toNat)
  case atStart => exact ⟨0, nb, by decide, rfl, HS⟩
  case round =>
    obtain ⟨k, n', hk, rfl, HJ⟩ := hrel
    rename_i wr
    clear HS
    by_cases hlt : k < 2
    · have hlt' : (k : Int) < 2 := by omega
      obtain ⟨gv', cv', he, hcv⟩ := (unhide HJ).nd.fly.at (by decide)
      simp only [Value.slice.injEq, Option.some.injEq, Addr.mk.injEq, and_true] at he
      obtain ⟨rfl, -, rfl⟩ := he
      have hs : ∃ d : PD, (d = pk1 ∨ d = pk2) ∧ ([⟨0, 1, encD 0 0 pk1⟩, ⟨0, 1, encD 0 0 pk2⟩] : List FLV).getD k .dflt = ⟨0, 1, encD 0 0 d⟩ ∧ (encD 0 0 d).size ≤ 1048576 ∧ (k = 0 → d = pk1) ∧ (k = 1 → d = pk2) := by
        obtain rfl | rfl : k = 0 ∨ k = 1 := by omega
        · exact ⟨pk1, .inl rfl, rfl, e2, (fun _ => rfl), (fun e => absurd e (by decide))⟩
        · exact ⟨pk2, .inr rfl, rfl, e3, (fun e => absurd e (by decide)), (fun _ => rfl)⟩
      obtain ⟨d, hd, hdk, hds, hd0, hd1⟩ := hs
      have hc := (hcv k (by show k < 2; exact hlt)).2.2
      rw [hdk] at hc
      have HR := hide (Zis gb _ n' (encD 0 0 d) 3 wr (unhide HJ).nd.b ((unhide HJ).nd.tabs (unhide HT)) hds (by have := (unhide HJ).tm; rw [(unhide HNB).tm] at this; omega))
      clear hcv hdk
      have HE := hide (show encD 0 0 d = encD 0 0 d from rfl)
      generalize hes : encD 0 0 d = s at *
      go_wp2_with fail
      refine (unhide HR).mono ?_
      rintro e w8 ⟨en, n8, rfl, hr8, hn8, ht8, -⟩
      rw [← hes] at hr8
      obtain rfl : en = 0 := Zzr hd hr8
      have HJ8 := hide (show SkJ w w8 gb w3.heap.size (k + 1) nb (.slice (some ⟨gv, 0, none⟩) 2 cv) n8 from by
        refine ⟨(unhide HJ).nd.tu hn8 ht8, ?_, fun e => by omega, fun e => ?_, fun e => ?_⟩
        · have := ZAw hr8
          have := (unhide HJ).tm
          omega
        · have hk0 : k = 0 := by omega
          rw [(unhide HJ).zero hk0, hd0 hk0] at hr8
          exact ⟨0, hr8⟩
        · have hk1 : k = 1 := by omega
          obtain ⟨en, h1⟩ := (unhide HJ).one hk1
          rw [hd1 hk1] at hr8
          exact ⟨n', en, 0, h1, hr8⟩)
      clear hr8 hn8 ht8 HJ HR hes hd hd0 hd1 hc e2 e3
      go_wp2
      go_roundw
      case rel => exact ⟨k + 1, n8, hlt, by go_num, HJ8⟩
      case measure => simp [intOf]; omega
    · obtain rfl : k = 2 := by omega
      obtain ⟨n1, en, en', h1, h2⟩ := (unhide HJ).two rfl
      have H1 := hide h1
      have H2 := hide h2
      obtain ⟨-, k1, k2, k3, k4, k5, k6, k7, -⟩ := ZnT (unhide HNB) h1 h2
      obtain ⟨s1, s2, s3⟩ := Zlk (unhide HNB) (unhide HB0)
      have hok : ∀ r, n'.src = some r → SrcOk n'.id r := fun r hr => by
        rw [k4, s2] at hr
        cases hr
      have HA9 := hide (ZgF gb _ n' none 0 0 [] 3 wr (unhide HJ).nd.b ((unhide HJ).nd.tabs (unhide HT)) hok (by rw [k1]; decide) (ZbT _) (by decide) (by rw [k6, (unhide HNB).tm]; decide))
      have hl1 : n'.s.ls.length = 1 := by rw [k5]; exact Zgo (by decide) (unhide HNB) (unhide HB0)
      have hrt : n'.p.rate < 18446744073709551616 := by rw [k3, (unhide HNB).rate]; exact (by decide : 4607182418800017408 < 18446744073709551616)
      have htm : n'.p.timeout = 5 := by rw [k3, (unhide HNB).timeout]; rfl
      have hkd : n'.p.kd = 3 := by rw [k3, s1]
      clear h1 h2 hok
      go_wp2_with fail
      refine (unhide HA9).mono ?_
      rintro e w9 ⟨rfl, f3, hf3, hn9, ht9, -⟩
      obtain ⟨⟨z1, z2⟩, kp, qd, z3⟩ := Zwl (w := w4) (wx := w4) (unhide HNB) (unhide HB0) (unhide H1) (unhide H2) hf3
      have HG9 := hide ((unhide HJ).nd.tu hn9 ht9)
      clear hf3 hn9 ht9 HA9 HJ H1 H2
      go_wp2_with fail
      refine (Zit gb _ _ _ (unhide HG9).b).mono ?_
      rintro e w10 ⟨v, rfl, ho10, hn10, ht10⟩
      rw [Zjz, hl1, z2] at ho10
      obtain ⟨gh, ch, rfl, hch⟩ := ho10.at (show 0 < 1 by decide)
      have HG10 := hide ((unhide HG9).tu hn10 ht10)
      have HO10 := hide ho10
      clear hn10 ht10 HG9 hch ho10
      go_wp2_with fail
      refine (Zkz gb _ _ 4 _ (unhide HG10).b ((unhide HG10).tabs (unhide HT) _ (Below.refl _ _)).tab).mono ?_
      rintro e w11 ⟨rfl, hb11⟩
      rw [z3]
      have HSZ := hide (show w.heap.size ≤ w11.heap.size from Nat.le_trans (unhide HG10).low.size hb11.size)
      have HG11 := hide (((unhide HG10).below hb11).below (alloc_low w11 (.cells #[.int .i64 0, .int .i64 0, .int .i64 0, .int .i64 0, .int .i64 0, .bool false, .string ⟨#[]⟩] 40)))
      have HO11 := hide (((unhide HO10).below hb11).below (alloc_low w11 (.cells #[.int .i64 0, .int .i64 0, .int .i64 0, .int .i64 0, .int .i64 0, .bool false, .string ⟨#[]⟩] 40)))
      have HX11 := hide (Zag 40 w11 [.int .i64 0, .int .i64 0, .int .i64 0, .int .i64 0, .int .i64 0, .bool false, .string ⟨#[]⟩])
      clear hb11 HG10 HO10
      go_wp2_with (first
        | ((with_reducible refine Zh4 40 40 Zgt 6 45 w11.heap.size 0 _ [.int .i64 0, .int .i64 (kp : Int), .int .i64 2, .int .i64 (qd : Int), .int .i64 1, .bool true, .string ⟨#[97, 98]⟩] ?_ ?_ (unhide HX11) rfl ?_ ?_ ?_); (focus rfl); (focus rfl); (focus exact (show 0 + 7 ≤ 7 by decide)); (focus exact (by simp [Value.oneCell'])); intro w12 hx12 ht12; have HX12 := hide hx12; have HT12 := hide ht12; clear hx12 ht12)
        | fail)
      have HE12 := hide (EndJ.store (unhide HG11) (unhide HO11) (unhide HX11) (unhide HT12) (unhide HSZ) (unhide HX12))
      clear HG11 HO11 HX11 HT12 HX12
      refine (ZlS gb _ _ _ (unhide HE12).nd.b hrt).mono ?_
      rintro e w13 ⟨rfl, s', hn13, hs13, ht13, -⟩
      have HE13 := hide ((unhide HE12).tu hn13 (ht13.wide fun j e => .inl e))
      have z5 : repC ⟨((n'.each (actU n'.p.queue f3.enc)).each Zcc).id, (((n'.each (actU n'.p.queue f3.enc)).each Zcc).inc + 1) % 4294967296, ((n'.each (actU n'.p.queue f3.enc)).each Zcc).p, ((n'.each (actU n'.p.queue f3.enc)).each Zcc).src, s', ((n'.each (actU n'.p.queue f3.enc)).each Zcc).t + 1⟩ 4 = [.int .i64 1, .int .i64 0, .int .i64 0, .int .i64 0, .int .i64 0, .bool false, .string ⟨#[]⟩] := by
        refine (ZyG ?_ ?_ ?_).trans ?_
        · exact hs13
        · show n'.p.kd ≠ 2
          rw [hkd]; decide
        · show (allZ (ZcY n'.p.timeout) (List.replicate 16 0) 4).length = 0
          rw [htm]; kernel_rfl
        show ([.int .i64 (((n'.inc + 1) % 4294967296 : Nat) : Int), .int .i64 0, .int .i64 0, .int .i64 0, .int .i64 0, .bool false, .string ⟨#[]⟩] : List Value) = _
        rw [k2]
        rfl
      clear hn13 hs13 ht13 HE12
      go_wp2_with fail
      refine (Zkz gb _ _ 4 _ (unhide HE13).nd.b ((unhide HE13).nd.tabs (unhide HT) _ (Below.refl _ _)).tab).mono ?_
      rintro e w14 ⟨rfl, hb14⟩
      rw [z5]
      have HSZ4 := hide (show w.heap.size ≤ w14.heap.size from Nat.le_trans (unhide HE13).nd.low.size hb14.size)
      have HE14 := hide (((unhide HE13).below hb14).below (alloc_low w14 (.cells #[.int .i64 0, .int .i64 0, .int .i64 0, .int .i64 0, .int .i64 0, .bool false, .string ⟨#[]⟩] 40)))
      have HLT := hide (((unhide HE13).below hb14).box.lt)
      have HX14 := hide (Zag 40 w14 [.int .i64 0, .int .i64 0, .int .i64 0, .int .i64 0, .int .i64 0, .bool false, .string ⟨#[]⟩])
      clear hb14 HE13 z5
      go_wp2_with (first
        | ((with_reducible refine Zh4 40 40 Zgt 7 49 w14.heap.size 0 _ [.int .i64 1, .int .i64 0, .int .i64 0, .int .i64 0, .int .i64 0, .bool false, .string ⟨#[]⟩] ?_ ?_ (unhide HX14) rfl ?_ ?_ ?_); (focus rfl); (focus rfl); (focus exact (show 0 + 7 ≤ 7 by decide)); (focus exact (by simp [Value.oneCell'])); intro w15 hx15 ht15; have HX15 := hide hx15; have HE15 := hide ((unhide HE14).more (unhide HX14) ht15 (unhide HSZ4) (Nat.ne_of_lt (unhide HLT))); obtain ⟨gv1, cv1, he1, hcv1⟩ := (unhide HE15).nd.fly.at (show 0 < 2 by decide); obtain ⟨gh1, ch1, he2, hch1⟩ := (unhide HE15).fly.at (show 0 < 1 by decide); simp only [Value.slice.injEq, Option.some.injEq, Addr.mk.injEq, and_true] at he1 he2; obtain ⟨rfl, -, rfl⟩ := he1; obtain ⟨rfl, -, rfl⟩ := he2; have m1 : w15.cell? ⟨gv, 1, none⟩ = some (.int .i64 1) := (hcv1 0 (show 0 < 2 by decide)).2.1; have m2 : w15.cell? ⟨gh, 2, none⟩ = some (.string f3.enc) := (hch1 0 (show 0 < 1 by decide)).2.2; have r5 := (unhide HE15).box.at 5 rfl; have r6 := (unhide HE15).box.at 6 rfl; have r2 := (unhide HE15).box.at 2 rfl; have r4 := (unhide HE15).box.at 4 rfl; have q0 := hx15.at 0 rfl; have q1 := hx15.at 1 rfl; have q2 := hx15.at 2 rfl; have q3 := hx15.at 3 rfl; have q4 := hx15.at 4 rfl; have q5 := hx15.at 5 rfl; have q6 := hx15.at 6 rfl; have z1' : (f3.enc.size : Int) = 10 := by rw [z1]; rfl
           clear hx15 ht15 hcv1 hch1)
        | fail)
      refine (Zis gb _ _ ⟨#[]⟩ 0 w15 (unhide HE15).nd.b ((unhide HE15).nd.tabs (unhide HT)) (by decide) (by show n'.t + 1 + 1 + 1 < 1099511627776; rw [k6, (unhide HNB).tm]; decide)).mono ?_
      rintro e w16 ⟨en6, n16, rfl, ⟨_, _, _, _, hr16, _⟩, hn16, ht16, -⟩
      obtain rfl : en6 = 2 := Zri hr16
      have HE16 := hide ((unhide HE15).tu hn16 ht16)
      clear hr16 hn16 ht16
      go_wp2
      go_ret
      exact ⟨rfl, (unhide HE16).nd.low⟩
theorem ZmH(f:CFV)(s:ByteArray)(now:Int)(w:World)(ht:Tabs w)(hf:CfIn w f):
  Calls Tryz.prog 5 #[f.val,.string s,.int .i64 now] w fun e w'=>e=.returned (.bool true)∧Below w.heap.size w w':=
 Zmk f s now w hf (hide fun wx hb=>ZmD wx (ht.below hb))
end Go.Proofs.YtlhhinlghhjghaaGreatDoor
