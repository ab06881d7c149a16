/-
  Contracts of Node.Act and Node.Tick: what each link does, link by link. Condition: the tables stand, at most 2^20 draws, at most 2^40 deeds.
  Contracts of Node.Act and Node.Tick, the walks; each of a node that is none.
  Contract of Node.Pump: what goes, link by link; of a node that is none. No condition.
  Contracts of split.lacking, split.Join, bucketlineref09.Join: for up to 2^20 texts, in sum of at most 2^30 bytes.
  Contracts of Decoder.admit for every packet, of the deferred closure of Decoder.Put, of Decoder.joined.
-/
import Derived.Test.YtlhhinlghhjghaaGreatDoorU40
import Derived.Test.YtlhhinlghhjghaaGreatDoorU34
import Derived.Test.YtlhhinlghhjghaaGreatDoorU35
import Derived.Defers
import Derived.Recover
namespace Go.Proofs.YtlhhinlghhjghaaGreatDoor
open Go.RowKit Go.Sort
set_option linter.unusedVariables false
set_option linter.unusedSimpArgs false
set_option maxRecDepth 4000
set_option maxHeartbeats 8000000
variable {fs:List FLV}{l:LkV}{g B i t k:Nat}{v tv:Value}{w w' wr:World}
def updL(u:LkV→Int×List ByteArray×Nat)(l:LkV):LkV:=l.now (u l).1 (u l).2.1 (u l).2.2
def ZaO(u:LkV→Int×List ByteArray×Nat)(i:Nat)(ls:List LkV):List LkV:=(ls.take i).map (updL u)++ls.drop i
theorem Zbi(u:LkV→Int×List ByteArray×Nat)(i:Nat)(ls:List LkV):(ZaO u i ls).length=ls.length:=by simp[ZaO];omega
theorem Zpv(u:LkV→Int×List ByteArray×Nat)(ls:List LkV):ZaO u 0 ls=ls:=by simp[ZaO]
theorem ZgP(u:LkV→Int×List ByteArray×Nat){i:Nat}{ls:List LkV}(h:ls.length≤i):ZaO u i ls=ls.map (updL u):=by simp[ZaO,List.take_of_length_le h,List.drop_eq_nil_of_le h]
theorem Zg0(u:LkV→Int×List ByteArray×Nat)(i k:Nat)(ls:List LkV)(hk:k<ls.length):(ZaO u i ls).getD k .dflt=if k<i then updL u (ls.getD k .dflt)else ls.getD k .dflt:=by
 unfold ZaO
 simp only[List.getD_eq_getElem?_getD]
 split
 ·rename_i h
  rw[List.getElem?_append_left (by simp;omega)]
  simp[h,hk]
 ·rename_i h
  rw[List.getElem?_append_right (by simp;omega)]
  simp only[List.length_map,List.length_take,List.getElem?_drop]
  rw[show i+(k-min i ls.length)=k by omega]
theorem ZeK(u:LkV→Int×List ByteArray×Nat){i:Nat}{ls:List LkV}(h:i<ls.length):(ZaO u i ls).getD i .dflt=ls.getD i .dflt:=by rw[Zg0 u i i ls h,if_neg (Nat.lt_irrefl _)]
theorem ZpS(u:LkV→Int×List ByteArray×Nat){i:Nat}{ls:List LkV}(h:i<ls.length):(ZaO u i ls).set i (updL u (ls.getD i .dflt))=ZaO u (i+1) ls:=by
 unfold ZaO
 have e1:((ls.take i).map (updL u)).length=i:=by simp;omega
 rw[List.set_append_right _ _ (by omega),e1,Nat.sub_self,List.take_succ_eq_append_getElem h,List.map_append,List.append_assoc]
 have e2:ls.getD i .dflt=ls[i]:=by simp[List.getD_eq_getElem?_getD,h]
 rw[e2,show ls.drop i=ls[i]::ls.drop (i+1) from List.drop_eq_getElem_cons h]
 rfl
def NDD.withL(n:NDD)(ls:List LkV)(t:Nat):NDD:=⟨n.id,n.inc,n.p,n.src,⟨n.s.lv,ls,n.s.gm,n.s.Z,n.s.gc,n.s.gcm,n.s.N,n.s.P,n.s.rl,n.s.dc⟩,t⟩
theorem NdAt.lstep{n:NDD}{u:LkV→Int×List ByteArray×Nat}(h:NdAt w g B (n.withL (ZaO u i n.s.ls) t))(hi:i<n.s.ls.length)(hk:(updL u (n.s.ls.getD i .dflt)).At w' n.p.M n.p.queue)(ht:Tu (n.s.ls.getD i .dflt).F w w')(hlo:(u (n.s.ls.getD i .dflt)).2.2≤t):
  NdAt w' g B (n.withL (ZaO u (i+1) n.s.ls) t):=by
 have hl:i<(ZaO u i n.s.ls).length:=by rw[Zbi];exact hi
 have ha:=ZeK u hi
 have hs:=h.st.link (i:=i) (lv:=(u (n.s.ls.getD i .dflt)).1) (L:=(u (n.s.ls.getD i .dflt)).2.1) (lo:=(u (n.s.ls.getD i .dflt)).2.2) hl (by show LkV.At w' n.p.M n.p.queue (((ZaO u i n.s.ls).getD i .dflt).now _ _ _);rw[ha];exact hk) (by show Tu ((ZaO u i n.s.ls).getD i .dflt).F w w';rw[ha];exact ht)
 have hs':SttAt w' B n.p ⟨n.s.lv,ZaO u (i+1) n.s.ls,n.s.gm,n.s.Z,n.s.gc,n.s.gcm,n.s.N,n.s.P,n.s.rl,n.s.dc⟩:=by
  rw[←ZpS u hi]
  have e:(ZaO u i n.s.ls).getD i .dflt=n.s.ls.getD i .dflt:=ha
  have:SttAt w' B n.p ⟨n.s.lv,(ZaO u i n.s.ls).set i (((ZaO u i n.s.ls).getD i .dflt).now (u (n.s.ls.getD i .dflt)).1 (u (n.s.ls.getD i .dflt)).2.1 (u (n.s.ls.getD i .dflt)).2.2),n.s.gm,n.s.Z,n.s.gc,n.s.gcm,n.s.N,n.s.P,n.s.rl,n.s.dc⟩:=hs
  rw[e]at this
  exact this
 have htm:=h.tm
 refine NdAt.state (n:=n.withL (ZaO u i n.s.ls) t) h hs' (ht.wide fun j hj=>.inr (.inl ⟨i,hl,by show((ZaO u i n.s.ls).getD i .dflt).F j;rw[ha];exact hj⟩)) rfl Iff.rfl Iff.rfl (by show(ZaO u (i+1) n.s.ls).length=(ZaO u i n.s.ls).length;rw[Zbi,Zbi]) ⟨htm.1,fun k hk=>?_⟩
 have hk2:k<n.s.ls.length:=by rw[←Zbi u (i+1) n.s.ls];exact hk
 show((ZaO u (i+1) n.s.ls).getD k .dflt).lo≤t
 have h2:((ZaO u i n.s.ls).getD k .dflt).lo≤t:=htm.2 k (by show k<(ZaO u i n.s.ls).length;rw[Zbi];exact hk2)
 rw[Zg0 u _ _ _ hk2]at h2⊢
 by_cases e:k<i
 ·rw[if_pos e]at h2;rw[if_pos (by omega)];exact h2
 ·by_cases e2:k=i
  ·subst e2;rw[if_pos (by omega)];exact hlo
  ·rw[if_neg e]at h2;rw[if_neg (by omega)];exact h2
theorem NdAt.lstart{n:NDD}(h:NdAt w g B n)(u:LkV→Int×List ByteArray×Nat)(ht:n.t≤t):NdAt w g B (n.withL (ZaO u 0 n.s.ls) t):=by
 rw[Zpv]
 exact⟨h.blk,h.lo,h.tos,h.src,h.st,h.kd,h.num,Nat.le_trans h.tm.1 ht,fun i hi=>Nat.le_trans (h.tm.2 i hi) ht⟩
def NDD.each(n:NDD)(u:LkV→Int×List ByteArray×Nat):NDD:=n.withL (n.s.ls.map (updL u)) (n.t+1)
def actU(q:Int)(e:ByteArray)(l:LkV):Int×List ByteArray×Nat:=if l.L.length<capN q then(l.lv,l.L++[e],l.lo)else(l.lv,l.L,l.lo+1)
theorem ZsW(l:LkV)(M q:Int)(f:FRV)(w:World)(h:l.At w M q)(ht:Tab w)(hr:RowAt w f.p.r.a f.p.r.n f.p.r.xs)(hn:f.p.r.n≤1048576)(hP:f.ok)(hlo:l.lo≤1099511627776):
  Calls Tryz.prog 36 #[.pointer (some ⟨l.g,0,none⟩),f.val] w fun e w'=> ∃en:Int,e=.returned (.int .i64 en)∧(updL (actU q f.enc) l).At w' M q∧Tu l.F w w':=by
 unfold updL actU
 by_cases hl:l.L.length<capN q
 ·rw[if_pos hl]
  exact(ZtK l.g l.gb l.gq l.c l.lo M q l.lv l.L f w h ht hr hn hP hl).mono fun e w' ⟨he,h1,h2⟩=>⟨0,he,h1,h2⟩
 ·rw[if_neg hl]
  exact(ZlD l.g l.gb l.gq l.c l.lo M q l.lv l.L f w h ht hr hn hP (by omega) hlo).mono fun e w' ⟨he,h1,h2⟩=>⟨5,he,h1,h2⟩
theorem LkV.At.row{M q:Int}(h:l.At w M q){a:Option Addr}{n:Nat}{xs:List Nat}(hr:RowAt w a n xs)(ht:Tu l.F w w'):RowAt w' a n xs:=by
 refine⟨hr.1,hr.2.1,?_⟩
 rcases hr.2.2 with h0|⟨b,off,rfl,hx⟩
 ·exact .inl h0
 ·refine .inr ⟨b,off,rfl,fun i hi=>ht.cell (hx i hi) fun e=>?_⟩
  have h1:=hx i hi
  have no:∀(T:TypeId) (cs:List Value),BkA T w b cs→(∀x∈cs,∀i,x≠ .int .u64 i)→False:=fun T cs hb hc=>by
   unfold BkA at hb
   rw[cell_of_row w b _ _ _ _ hb]at h1
   have h2:cs[off+i]? =some (.int .u64 ((xs.getD i 0:Nat):Int)):=by simpa using h1
   exact hc _ (List.mem_of_getElem? h2) _ rfl
  rcases e with e|e|e|e
  ·have e:b=l.g:=e
   subst e
   exact no _ _ h.blk (by simp)
  ·have e:b=l.gb:=e
   subst e
   exact no _ _ h.bt.blk (by simp)
  ·have e:b=l.gq:=e
   subst e
   exact no _ _ h.qu.blk (by simp)
  ·have e:b=l.c:=e
   subst e
   obtain⟨s,r,hc⟩:=h.qu.chn
   rw[World.cell?,hc]at h1
   cases h1
theorem FrP.ok{n:NDD}{L:List Nat}{f:FRV}(h:NdAt w g B n)(hid:n.id≤7)(hok:∀r,n.src=some r→SrcOk n.id r)(hf:FrP n L f):f.ok∧f.p.r.xs.length≤10:=by
 obtain⟨h1,h2,h3,h4⟩:=hf
 have hinc:=h.num.1
 have hx:f.p.r.xs=((emD n L).getD zPK.pd).xs:=by rw[←h4];rfl
 have key:∀d,emD n L=some d→okD d=true:=fun d hd=>by
  unfold emD at hd
  cases hs:n.src with
  |some r=>rw[hs]at hd;cases hd;exact(hok r hs).ck L
  |none=>
   rw[hs]at hd
   cases hr:n.s.rl with
   |none=>rw[hr]at hd;cases hd
   |some r=>
    rw[hr]at hd
    obtain⟨ws,hm⟩:=Ztq hd
    exact(ZyT (h.st.rl r hr).buf.inv.ok hm).1
 have hfr:(0≤f.fr∧f.fr≤7)∧(0≤f.ic∧f.ic≤4294967295):=by rw[h1,h2];omega
 cases ho:emD n L with
 |none=>
  rw[ho]at h3 h4 hx
  refine⟨⟨hfr.1,hfr.2,.inl ⟨h3,?_⟩⟩,by rw[hx];decide⟩
  have e:f.p.pd=zPK.pd:=h4
  simp only[PKV.pd,zPK,PD.mk.injEq]at e
  exact ZkX ⟨e.1,e.2.1,e.2.2.1,e.2.2.2.1,e.2.2.2.2.1,e.2.2.2.2.2.1,e.2.2.2.2.2.2⟩
 |some d=>
  have hd:=key d ho
  rw[ho]at h3 h4 hx
  have e:f.p.pd=d:=h4
  refine⟨⟨hfr.1,hfr.2,.inr ⟨h3,?_⟩⟩,by rw[hx];exact Nat.le_trans (ZfM hd) (by decide)⟩
  have:=Zcr.1 hd
  rw[←e]at this
  exact this
def FRV.cells(f:FRV):List Value:=[.int .i64 f.kd,.int .i64 f.fr,.int .i64 f.ic,.int .i64 f.p.o,.int .i64 f.p.l,.int .i64 f.p.k,.int .i64 f.p.z,.int .i64 f.p.h,.slice f.p.r.a f.p.r.n f.p.r.c,.string f.p.r.s]
theorem NdAt.keeps{n:NDD}(h:NdAt w g B n)(ht:Tu (ndF g n) w w'):Below B w w':=h.step (Below.refl B w) ht
theorem ZBa{n:NDD}(hi:i<n.s.ls.length):∀j,(n.s.ls.getD i .dflt).F j→ndF g n j:=fun j hj=>.inr (.inr (.inr (.inr (.inl ⟨i,hi,hj⟩))))
theorem NdAt.lptr{n:NDD}{u:LkV→Int×List ByteArray×Nat}(h:NdAt w g B (n.withL (ZaO u i n.s.ls) t))(hi:i<n.s.ls.length):∃b c,n.s.lv=.slice (some ⟨b,0,none⟩) n.s.ls.length c∧w.cell? ⟨b,i,none⟩=some (.pointer (some ⟨(n.s.ls.getD i .dflt).g,0,none⟩)):=by
 have hl:0<(ZaO u i n.s.ls).length:=by rw[Zbi];omega
 obtain⟨b,c,e,hc⟩:=OwnL.at (ls:=ZaO u i n.s.ls) h.st.lks hl
 have:=hc i (by rw[Zbi];exact hi)
 rw[ZeK u hi]at this
 rw[Zbi]at e
 exact⟨b,c,e,this⟩
structure ActJ(w wr:World)(g B fq k:Nat)(n:NDD)(f:FRV):Prop where
 nd:NdAt wr g B (n.withL (ZaO (actU n.p.queue f.enc) k n.s.ls) (n.t+1))
 tu:Tu (ndF g n) w wr
 row:RowAt wr f.p.r.a f.p.r.n f.p.r.xs
 box:BkA 78 wr fq f.cells
theorem LkV.At.box{M q:Int}{cs:List Value}(h:l.At w M q)(hb:BkA 78 w g cs)(ht:Tu l.F w w'):BkA 78 w' g cs:=hb.tu ht fun e=>by have:=LkAt.kd h g e;have:=hb.kd;omega
theorem ActJ.step{w2:World}{fq:Nat}{n:NDD}{f:FRV}(h:ActJ w wr g B fq k n f)(hk:k<n.s.ls.length){l:LkV}(hl:n.s.ls.getD k .dflt=l)(hat:l.At wr n.p.M n.p.queue)(ha:(updL (actU n.p.queue f.enc) l).At w2 n.p.M n.p.queue)(ht:Tu l.F wr w2)(hlo:l.lo≤n.t):ActJ w w2 g B fq (k+1) n f:=by
 subst hl
 refine⟨h.nd.lstep hk ha ht ?_,h.tu.trans ht fun j _ e=>ZBa hk j e,hat.row h.row ht,hat.box h.box ht⟩
 unfold actU
 split
 ·show(n.s.ls.getD k .dflt).lo≤n.t+1;omega
 ·show(n.s.ls.getD k .dflt).lo+1≤n.t+1;omega
theorem ZgF(g B:Nat)(n:NDD)(a:Option Addr)(dn dc:Nat)(L:List Nat)(now:Int)(w:World)(h:NdAt w g B n)(ht:∀wx,Below B w wx→Tabs wx)(hok:∀r,n.src=some r→SrcOk n.id r)(hid:n.id≤7)(hd:RowAt w a dn L)(hdn:dn≤1048576)(htm:n.t<1099511627776):
  Calls Tryz.prog 12 #[.pointer (some ⟨g,0,none⟩),.slice a dn dc,.int .i64 now] w fun e w'=>e=.returned (.tuple #[])∧∃f:FRV,FrP n L f∧NdAt w' g B (n.each (actU n.p.queue f.enc))∧Tu (ndF g n) w w'∧smalls f.p.r.xs:=by
 have HF:=hide (ZlY g B n a dn dc L w h (ht w (Below.refl _ _)) hok hd hdn)
 obtain⟨al,cl,hlv⟩:=h.st.lks.len
 have hlen8:n.s.ls.length≤8:=by have:=h.num;omega
 have H:=hide h
 have HT:=hide ht
 have HOK:=hide hok
 have hgl:=h.blk.lt
 clear h ht hok hd
 go_enter Tryz.func12,Tryz.ntmps12
 go_wp2_with fail
 refine(unhide HF).mono ?_
 rintro e w1 ⟨f,rfl,hf1,hr1,hb1⟩
 have HF1:=hide hf1
 have HSM:=hide hr1.2.1
 have hb2:=below0 hb1 (alloc_low w1 (.cells #[.int .i64 f.kd,.int .i64 f.fr,.int .i64 f.ic,.int .i64 f.p.o,.int .i64 f.p.l,.int .i64 f.p.k,.int .i64 f.p.z,.int .i64 f.p.h,.slice f.p.r.a f.p.r.n f.p.r.c,.string f.p.r.s] 78))
 have HJ0:=hide (show ActJ w (w1.alloc (.cells #[.int .i64 f.kd,.int .i64 f.fr,.int .i64 f.ic,.int .i64 f.p.o,.int .i64 f.p.l,.int .i64 f.p.k,.int .i64 f.p.z,.int .i64 f.p.h,.slice f.p.r.a f.p.r.n f.p.r.c,.string f.p.r.s] 78)) g B w1.heap.size 0 n f from⟨((unhide H).below hb2).lstart _ (Nat.le_succ _),Tu.of_below hb2,hr1.below (alloc_low _ _),Zag 78 w1 f.cells⟩)
 have c11:=((unhide H).below hb2).blk.at 11 (show(ndC n)[11]? =some n.s.lv from rfl)
 rw[hlv]at c11
 have hgn:w1.heap.size≠g:=by have:=hb1.size;omega
 unfold FRV.val
 clear hf1 hr1 hb1 hb2
 go_wp2_with fail
 generalize w1.alloc (.cells #[.int .i64 f.kd,.int .i64 f.fr,.int .i64 f.ic,.int .i64 f.p.o,.int .i64 f.p.l,.int .i64 f.p.k,.int .i64 f.p.z,.int .i64 f.p.h,.slice f.p.r.a f.p.r.n f.p.r.c,.string f.p.r.s] 78)=wa at*
 generalize w1.heap.size=fq at*
 clear c11
 have HOKF:=hide (FrP.ok (unhide H) hid (unhide HOK) (unhide HF1))
 go_loopw [20] (fun i wr=> ∃k:Nat,k≤n.s.ls.length∧i=.int .i64 k∧Hid (ActJ w wr g B fq k n f)) (fun i _=>n.s.ls.length-(intOf i).toNat)
 case atStart=>exact⟨0,Nat.zero_le _,rfl,HJ0⟩
 case round=>
  obtain⟨k,hk,rfl,HJ⟩:=hrel
  clear HJ0
  rename_i wr
  by_cases hlt:k<n.s.ls.length
  ·have hlt':(k:Int)<(n.s.ls.length:Int):=by omega
   obtain⟨b,c,hb,hcp⟩:=(unhide HJ).nd.lptr hlt
   rw[hlv]at hb
   simp only[Value.slice.injEq,true_and]at hb
   obtain⟨rfl,rfl⟩:=hb
   have hlo:(n.s.ls.getD k .dflt).lo≤n.t:=(unhide H).tm.2 k hlt
   have hat:(n.s.ls.getD k .dflt).At wr n.p.M n.p.queue:=by
    have:=((unhide HJ).nd.st.each k (by show k<(ZaO _ k n.s.ls).length;rw[Zbi];exact hlt)).1
    have e:LkV.At wr n.p.M n.p.queue ((ZaO (actU n.p.queue f.enc) k n.s.ls).getD k .dflt):=this
    rwa[ZeK _ hlt]at e
   have HAT:=hide hat
   have HS:=hide (ZsW _ n.p.M n.p.queue f wr hat (unhide HT _ ((unhide H).keeps (unhide HJ).tu)).tab (unhide HJ).row (by have:=(unhide HOKF).2;have:=(unhide HJ).row.1;omega) (unhide HOKF).1 (by omega))
   have HLO:=hide hlo
   have HBX:=hide (unhide HJ).box
   clear hat hlo
   generalize hl:n.s.ls.getD k .dflt=l at*
   have HLL:=hide hl
   clear hl
   unfold FRV.val at HS
   unfold FRV.cells at HBX
   go_wp2_with (first
    |((with_reducible refine Zms 78 Tryz.underlying78 rfl Zd5 6 fq _ ?_ (unhide HBX) rfl ?_);(focus rfl))
    |(go_at_call 36;refine(unhide HS).mono ?_;rintro e w2 ⟨en,rfl,ha2,ht2⟩;have HA2:=hide ha2;have HT2:=hide ht2;clear ha2 ht2)
    |fail)
   go_round
   case rel=>exact⟨k+1,hlt,by go_num,hide ((unhide HJ).step hlt (unhide HLL) (unhide HAT) (unhide HA2) (unhide HT2) (unhide HLO))⟩
   case measure=>simp[intOf];omega
  ·obtain rfl:k=n.s.ls.length:=by omega
   go_wp2
   have hn:=(unhide HJ).nd
   rw[ZgP _ (Nat.le_refl _)]at hn
   go_end0
   exact⟨rfl,f,unhide HF1,hn,(unhide HJ).tu,unhide HSM⟩
theorem ZrV(a b:Value)(w:World):Calls Tryz.prog 12 #[.pointer none,a,b] w fun e w'=>e=.returned (.tuple #[])∧w'=w:=by
 go_enter Tryz.func12,Tryz.ntmps12
 go_wp2
 exact bodyPost_ret (v:=.tuple #[]) (by simp[results,Tryz.results12,go_sem]) rfl ⟨rfl,rfl⟩
theorem Zo6(a:Value)(w:World):Calls Tryz.prog 13 #[.pointer none,a] w fun e w'=>e=.returned (.tuple #[])∧w'=w:=by
 go_enter Tryz.func13,Tryz.ntmps13
 go_wp2
 exact bodyPost_ret (v:=.tuple #[]) (by simp[results,Tryz.results13,go_sem]) rfl ⟨rfl,rfl⟩
theorem ZkD{ops:Array Oper}{o:Oper}{a:Act}{K:Act→World→Prop}{Q:Exit→Act→World→Prop}{E:Prop}(hgd:o.guard=none)(s x:Operand)
  (ho:o.op=.call {callee:=.builtin .append,args:=#[s,x],argTypes:=#[71,71]}) (B:Nat) (v:Value) (fs:List FLV) (f:FLV) (hs:a.eval s=v) (hown:OwnG w B v fs) (b:Nat)
  (hx:a.eval x=.slice (some ⟨b,0,none⟩) 1 1) (hb:w.heap[b]? =some (.cells #[.int .i64 f.fr,.int .i64 f.dst,.string f.s] 82 (0,0))) (hn:fs.length≤1000000) (hB:B≤w.heap.size)
  (h:∀g cap w',OwnG w' B (.slice (some ⟨g,0,none⟩) (fs.length+1) cap) (fs++[f])→w.grownBy w' v.ownBlock→K (a.put o.dst (.slice (some ⟨g,0,none⟩) (fs.length+1) cap)) w'):
  if Region.wanted o (yielded ops a.tmps)=true then Oper.wp Tryz.prog o a w K Q else E:=by
 obtain⟨i0,hi,hz0,hz1,hz2⟩:=info_parts ZvM
 refine step_append_lies w hgd s x 71 ho B 82 i0 _ 3 32 Tryz.underlying71 hi hz0 hz1 hz2 rfl (by decide) v fs.length (Zem fs) hs hown ⟨b,0,none⟩ 1 1 f.cells hx rfl
  (World.news_of_block hb) (fun u hu=>by simp only[FLV.cells,List.mem_cons,List.not_mem_nil,or_false]at hu;rcases hu with h|h|h<;>(rw[h];rfl)) (by decide) (by unfold maxLen;omega) (by omega) hB _ rfl (fun g cap w' h2 h3 h4 _=>h g cap w' ?_ h3)
 show w'.ownsRow B 82 3 _ (fs++[f]).length (Zem (fs++[f]))
 rw[List.length_append,show Zem (fs++[f])=Zem fs++f.cells by simp[Zem]]
 exact h2
theorem NdAt.nk{n:NDD}(h:NdAt w g B n):∀j,ndF g n j→kdB w j≠82+2∧kdB w j≠69+2:=fun j hj=>by
 rcases hj with rfl|hj|⟨r,hr,hj⟩|hj
 ·have:=h.blk.kd;omega
 ·have:=Zah h.tos hj;omega
 ·have:=(h.src r hr).kd j hj;omega
 ·have:=h.st.kd j hj;omega
def Zcc(l:LkV):Int×List ByteArray×Nat:=(l.lv-1000*(ZeN l.L l.lv:Int),l.L.drop (ZeN l.L l.lv),l.lo)
def flyL(n:NDD)(i m:Nat):List FLV:=((n.s.ls.getD i .dflt).L.take m).map fun s=>⟨(n.id:Int),n.p.tos.getD i 0,s⟩
def flyN(n:NDD)(i:Nat):Nat:=ZeN (n.s.ls.getD i .dflt).L (n.s.ls.getD i .dflt).lv
def Zef(n:NDD):Nat→List FLV
 |0=>[]
 |k+1=>Zef n k++flyL n k (flyN n k)
theorem Zro{n:NDD}{m:Nat}(h:m<(n.s.ls.getD i .dflt).L.length):flyL n i m++[⟨(n.id:Int),n.p.tos.getD i 0,(n.s.ls.getD i .dflt).L.getD m ByteArray.empty⟩]=flyL n i (m+1):=by
 unfold flyL
 rw[←ZiP h,List.map_append]
 rfl
theorem ZmR(n:NDD)(i m:Nat):(flyL n i m).length≤m:=by unfold flyL;rw[List.length_map,List.length_take];omega
theorem Zlc{n:NDD}:∀{k:Nat},(∀i,i<k→flyN n i≤256)→(Zef n k).length≤256*k
 |0,_=>Nat.le_refl _
 |k+1,h=>by
  have h1:=Zlc (n:=n) (k:=k) fun i hi=>h i (by omega)
  have h2:=ZmR n k (flyN n k)
  have h3:=h k (by omega)
  show(Zef n k++flyL n k (flyN n k)).length≤_
  rw[List.length_append]
  omega
theorem NdAt.fly{n:NDD}(h:NdAt w g B n)(hi:i<n.s.ls.length):flyN n i≤256:=
 Nat.le_trans (Zob _ _) (Nat.le_trans (LkAt.qu (h.st.each i hi).1).len (LkAt.qu (h.st.each i hi).1).most)
structure PmJ(w wr:World)(g B k:Nat)(n:NDD)(v:Value)(fs:List FLV):Prop where
 nd:NdAt wr g B (n.withL (ZaO Zcc k n.s.ls) (n.t+1))
 tu:Tu (ndF g n) w wr
 out:OwnG wr w.heap.size v fs
theorem NdAt.gb{C:Nat}{n:NDD}(h:NdAt w g B n)(ho:OwnG w C v fs)(hg:w.grownBy w' v.ownBlock):NdAt w' g B n:=
 h.tu (F:=fun j=>v.ownBlock=some j) (Tu.of_gb hg fun j _ e=>e) (fun j hj e=>by have:=(h.nk j hj).1;have:=Zah ho e;omega) fun j hj e=>by have:=Zah ho e;omega
theorem ZAF{F:Nat→Prop}(h:Tu F w wr)(ho:OwnG wr w.heap.size v fs)(hg:wr.grownBy w' v.ownBlock):Tu F w w':=
 h.trans (Tu.of_gb (F:=fun j=>v.ownBlock=some j) hg fun j _ e=>e) fun j hj e=>by have:=(ZbL ho e).1;omega
structure InJ(w wi:World)(g B k:Nat)(n:NDD)(tv:Value)(ts:List ByteArray)(v:Value)(fs:List FLV):Prop where
 nd:NdAt wi g B (n.withL (ZaO Zcc (k+1) n.s.ls) (n.t+1))
 tu:Tu (ndF g n) w wi
 out:OwnG wi w.heap.size v fs
 tx:OwnT wi w.heap.size tv ts
theorem PmJ.go{w2:World}{n:NDD}{m:Nat}(h:PmJ w wr g B k n v fs)(hk:k<n.s.ls.length)(hl:n.s.ls.getD k .dflt=l)(hm:flyN n k=m)(hlo:l.lo≤n.t)(ht:TkJ wr w2 l.g l.gb l.gq l.c n.p.M n.p.queue l.lv l.L l.lo m tv):InJ w w2 g B k n tv (l.L.take m) v fs:=by
 subst hl hm
 have hat:(n.s.ls.getD k .dflt).At wr n.p.M n.p.queue:=by
  have:=(h.nd.st.each k (by show k<(ZaO _ k n.s.ls).length;rw[Zbi];exact hk)).1
  have e:LkV.At wr n.p.M n.p.queue ((ZaO Zcc k n.s.ls).getD k .dflt):=this
  rwa[ZeK _ hk]at e
 exact⟨h.nd.lstep hk ht.lk ht.tu (by show(n.s.ls.getD k .dflt).lo≤n.t+1;omega),h.tu.trans ht.tu fun j _ e=>ZBa hk j e,Zam h.out ht.tu fun j hj e=>by have:=Zah h.out hj;have:=LkAt.kd hat j e;omega,ht.own.mono h.tu.size⟩
theorem InJ.gb{wi:World}{n:NDD}{v':Value}{ts:List ByteArray}{fs':List FLV}(h:InJ w wi g B k n tv ts v fs){wb:World}(hb:Below wi.heap.size wi wb)(hg:wb.grownBy w' v.ownBlock)(ho:OwnG w' w.heap.size v' fs'):InJ w w' g B k n tv ts v' fs':=by
 have o2:=h.out.below hb
 have t2:OwnT wb w.heap.size tv ts:=h.tx.below hb
 exact⟨(h.nd.below hb).gb o2 hg,ZAF (h.tu.then hb) o2 hg,ho,Zam t2 (Tu.of_gb (F:=fun j=>v.ownBlock=some j) hg fun j _ e=>e) fun j hj e=>by have:=Zah t2 hj;have:=Zah o2 e;omega⟩
theorem InJ.cells{wi:World}{n:NDD}{ts:List ByteArray}(h:InJ w wi g B k n tv ts v fs)(hk:k<n.p.tos.length):∃gz cz,n.p.tv=.slice (some ⟨gz,0,none⟩) n.p.tos.length cz∧wi.cell? ⟨g,0,none⟩=some (.int .i64 (n.id:Int))∧wi.cell? ⟨g,9,none⟩=some (.slice (some ⟨gz,0,none⟩) n.p.tos.length cz)∧wi.cell? ⟨gz,k,none⟩=some (.int .i64 (n.p.tos.getD k 0)):=by
 have ho:wi.ownsRow B 3 1 n.p.tv n.p.tos.length (cellsZ n.p.tos):=h.nd.tos
 have h9:=h.nd.blk.at 9 (show(ndC (n.withL (ZaO Zcc (k+1) n.s.ls) (n.t+1)))[9]? =some n.p.tv from rfl)
 rcases ho.2 with⟨_,h0⟩|⟨gz,cap,cur,e,hb,hg,hn,hm,hsz,ht⟩
 ·omega
 ·refine⟨gz,cap,e,h.nd.blk.at 0 rfl,by rw[←e];exact h9,?_⟩
  have ho':=ho
  rw[e]at ho'
  rw[ho'.cellAt k (by omega),Zbm _ k hk]
theorem Zit(g B:Nat)(n:NDD)(w:World)(h:NdAt w g B n):
  Calls Tryz.prog 21 #[.pointer (some ⟨g,0,none⟩)] w fun e w'=> ∃v,e=.returned v∧OwnG w' w.heap.size v (Zef n n.s.ls.length)∧NdAt w' g B (n.each Zcc)∧Tu (ndF g n) w w':=by
 obtain⟨al,cl,hlv⟩:=h.st.lks.len
 have hlen8:n.s.ls.length≤8:=by have:=h.num;omega
 have c11:=h.blk.at 11 (show(ndC n)[11]? =some n.s.lv from rfl)
 rw[hlv]at c11
 have HJ0:=hide (show PmJ w w g B 0 n (.slice none 0 0) (Zef n 0) from⟨h.lstart _ (Nat.le_succ _),Tu.refl _ _,OwnG.nil _ _⟩)
 have H:=hide h
 have hgl:=h.blk.lt
 have HTL:=hide (show n.s.ls.length=n.p.tos.length from h.num.2.1)
 clear h
 go_enter Tryz.func21,Tryz.ntmps21
 go_wp2_with fail
 clear c11
 go_loopw [3,16] (fun o i wr=> ∃k:Nat,k≤n.s.ls.length∧i=.int .i64 k∧Hid (PmJ w wr g B k n o (Zef n k))) (fun _ i _=>n.s.ls.length-(intOf i).toNat)
 case atStart=>exact⟨0,Nat.zero_le _,rfl,HJ0⟩
 case round=>
  obtain⟨k,hk,rfl,HJ⟩:=hrel
  clear HJ0
  by_cases hlt:k<n.s.ls.length
  ·have hlt':(k:Int)<(n.s.ls.length:Int):=by omega
   obtain⟨b,c,hb,hcp⟩:=(unhide HJ).nd.lptr hlt
   rw[hlv]at hb
   simp only[Value.slice.injEq,true_and]at hb
   obtain⟨rfl,rfl⟩:=hb
   have hat:(n.s.ls.getD k .dflt).At wr n.p.M n.p.queue:=by
    have:=((unhide HJ).nd.st.each k (by show k<(ZaO _ k n.s.ls).length;rw[Zbi];exact hlt)).1
    have e:LkV.At wr n.p.M n.p.queue ((ZaO Zcc k n.s.ls).getD k .dflt):=this
    rwa[ZeK _ hlt]at e
   have HP:=hide (ZpF _ _ _ _ _ _ _ _ _ wr hat)
   have HLO:=hide ((unhide H).tm.2 k hlt)
   have HL5:=hide (show(n.s.ls.getD k .dflt).L.length≤256 from Nat.le_trans hat.qu.len hat.qu.most)
   have HN:=hide (show ZeN (n.s.ls.getD k .dflt).L (n.s.ls.getD k .dflt).lv=flyN n k from rfl)
   have hle:flyN n k≤(n.s.ls.getD k .dflt).L.length:=Zob _ _
   have HLE:=hide hle
   have h256:flyN n k≤256:=Nat.le_trans hle (unhide HL5)
   rw[unhide HN]at HP
   clear hat hle
   generalize hl:n.s.ls.getD k .dflt=l at*
   generalize hm:flyN n k=m at*
   have HLL:=hide hl
   have HMM:=hide hm
   clear hl hm
   go_wp2_with (first
    |(go_at_call 53;refine(unhide HP).mono ?_;rintro e w2 ⟨b2,c2,rfl,hj2⟩;have HJ2:=hide hj2;clear hj2)
    |fail)
   have HI0:=hide (show InJ w w2 g B k n (.slice b2 m c2) (l.L.take m) u3 (Zef n k++flyL n k 0) from by
    have:=(unhide HJ).go hlt (unhide HLL) (unhide HMM) (by rw[←unhide HLL];exact(unhide H).tm.2 k hlt) (unhide HJ2)
    rwa[show flyL n k 0=[] from rfl,List.append_nil])
   clear HP HJ2 HJ hcp
   go_loopw [3,24] (fun o i wi=> ∃q:Nat,q≤m∧i=.int .i64 q∧Hid (InJ w wi g B k n (.slice b2 m c2) (l.L.take m) o (Zef n k++flyL n k q))) (fun _ i _=>m-(intOf i).toNat)
   case atStart=>exact⟨0,Nat.zero_le _,rfl,HI0⟩
   case round=>
    obtain⟨q,hq,rfl,HI⟩:=hrel
    clear HI0
    by_cases hqm:q<m
    ·have hqm':(q:Int)<(m:Int):=by omega
     have hml:m≤l.L.length:=unhide HLE
     have htl:(l.L.take m).length=m:=by rw[List.length_take];omega
     obtain⟨gt,ct,ht, -, -,hct, -⟩:=(unhide HI).tx.at (by omega)
     simp only[Value.slice.injEq]at ht
     obtain⟨rfl, -,rfl⟩:=ht
     have t0:=hct q (by omega)
     have hge:(l.L.take m).getD q ByteArray.empty=l.L.getD q ByteArray.empty:=by simp[List.getD_eq_getElem?_getD,hqm]
     rw[hge]at t0
     obtain⟨gz,cz,htv,s0,s9,sz⟩:=(unhide HI).cells (by rw[←unhide HTL];exact hlt)
     have HNG:=hide (fun(e:some g=Value.ownBlock u3)=>by have:=Zah (unhide HI).out e.symm;have:=(unhide HI).nd.blk.kd;omega:some g≠Value.ownBlock u3)
     have HNZ:=hide (show some gz≠Value.ownBlock u3 from fun e=>by have:=Zah (unhide HI).out e.symm;have:=Zah (unhide HI).nd.tos (show n.p.tv.ownBlock=some gz by rw[htv];rfl);omega)
     have hzl:(k:Int)<(n.p.tos.length:Int):=by have:=unhide HTL;omega
     have hkz:k<n.p.tos.length:=by omega
     have HTX:=hide (show l.L.getD q ByteArray.empty=l.L.getD q ByteArray.empty from rfl)
     have HFN:=hide (show(Zef n k++flyL n k q).length≤1000000 from by rw[List.length_append];have:=Zlc (n:=n) (k:=k) fun i hi=>(unhide H).fly (by omega);have:=ZmR n k q;omega)
     have hgw:g<wr.heap.size:=(unhide HI).nd.blk.lt
     have hzw:gz<wr.heap.size:=World.block_lt_of_cell? wr _ sz
     have hsw:w.heap.size≤wr.heap.size:=(unhide HI).tu.size
     have HSW:=hide hsw
     clear hct htl hml hge htv
     generalize hT:l.L.getD q ByteArray.empty=T at*
     have HTT:=hide hT
     clear hT HTX hsw
     generalize hZ:n.p.tos.getD k 0=Z at*
     have HZZ:=hide hZ
     clear hZ
     have hu3:=(unhide HI).out.len
     generalize hfs:Zef n k++flyL n k q=fs at*
     have HFS:=hide hfs
     clear hfs
     obtain⟨a3,c3,rfl⟩:=hu3
     go_wp2_with fail
     go_region_held3 (fun w'=>w'.cell? ⟨g,0,none⟩=some (.int .i64 (n.id:Int))∧w'.cell? ⟨g,9,none⟩=some (.slice (some ⟨gz,0,none⟩) n.p.tos.length cz)∧w'.cell? ⟨gz,k,none⟩=some (.int .i64 Z)) (go_keep) (first
      |(refine ZkD (by rfl) (.tmp 28) (.tmp 43) (by rfl) w.heap.size (.slice a3 fs.length c3) fs ⟨(n.id:Int),Z,T⟩ (by rfl) ((unhide HI).out.below ((Below.refl _ _).drew.alloc (Nat.le_refl _) _)) wr.heap.size (by rfl) (Zag 82 wr.drew [.int .i64 (n.id:Int),.int .i64 Z,.string T]) (unhide HFN) (Nat.le_trans (unhide HSW) ((Below.refl _ _).drew.alloc (Nat.le_refl _) _).size) ?_;intro g4 cap4 w4 ho4 hg4;have hb4:Below wr.heap.size wr (wr.drew.alloc (.cells #[.int .i64 (n.id:Int),.int .i64 Z,.string T] 82)):=((Below.refl _ _).drew.alloc (Nat.le_refl _) _);have v0:=hg4.cell (a:=⟨g,0,none⟩) ((hb4.cell hgw).trans s0) (unhide HNG);have v9:=hg4.cell (a:=⟨g,9,none⟩) ((hb4.cell hgw).trans s9) (unhide HNG);have vz:=hg4.cell (a:=⟨gz,k,none⟩) ((hb4.cell hzw).trans sz) (unhide HNZ);have HI4:=hide ((unhide HI).gb hb4 hg4 ho4);clear hb4 ho4 hg4)
      |fail)
     go_wp2
     go_round
     case rel=>
      refine⟨q+1,hqm,by go_num,hide ?_⟩
      have h4:=unhide HI4
      have e:fs++[⟨(n.id:Int),Z,T⟩]=Zef n k++flyL n k (q+1):=by
       rw[←unhide HFS,List.append_assoc,←unhide HZZ,←unhide HTT,←unhide HLL,Zro (by rw[unhide HLL];have:=unhide HLE;omega)]
      rw[e]at h4
      exact h4
     case measure=>simp[intOf];omega
    ·obtain rfl:q=m:=by omega
     go_wp2
     go_round
     case rel=>exact⟨k+1,hlt,by go_num,hide ⟨(unhide HI).nd,(unhide HI).tu,by have:=(unhide HI).out;rwa[←unhide HMM]at this⟩⟩
     case measure=>simp[intOf];omega
  ·obtain rfl:k=n.s.ls.length:=by omega
   go_wp2
   have hn:=(unhide HJ).nd
   rw[ZgP _ (Nat.le_refl _)]at hn
   go_ret
   exact⟨_,rfl,(unhide HJ).out,hn,(unhide HJ).tu⟩
theorem Zqa(w:World):Calls Tryz.prog 21 #[.pointer none] w fun e w'=>e=.returned (.slice none 0 0)∧w'=w:=by
 go_enter Tryz.func21,Tryz.ntmps21
 go_wp2
 go_ret
 exact⟨rfl,rfl⟩
end Go.Proofs.YtlhhinlghhjghaaGreatDoor
namespace Go.Proofs.YtlhhinlghhjghaaGreatDoor
open Go.RowKit
set_option linter.unusedVariables false
set_option linter.unusedSimpArgs false
set_option maxRecDepth 4000
set_option maxHeartbeats 8000000
theorem ZuR(w:World)(o:Obj):(w.alloc o).heap[w.heap.size]? =some o:=by
 show(w.heap.push o)[w.heap.size]? =_
 simp
theorem Zl5(a:Option Addr)(l c:Nat)(ss:List ByteArray)(n:Nat)(w:World)(h:TextsAt w a l ss)(hl:l≤1048576)(hn:n≤9223372036854775807):
  Calls Tryz.prog 213 #[.slice a l c,.int .i64 (n:Int)] w fun e w'=>e=.returned (.int .i64 ((n-(joinL ss).length:Nat):Int))∧w'=w:=by
 obtain rfl:=h.1
 go_enter Tryz.func213,Tryz.ntmps213
 go_wp2
 go_loop [1,9] (fun v i=> ∃k r:Nat,k≤ss.length∧i=.int .i64 k∧v=.int .i64 (r:Int)∧r≤n∧Hid (r=n-(joinL (ss.take k)).length)) (fun _ i=>ss.length-(intOf i).toNat)
 case atStart=>exact⟨0,n,Nat.zero_le _,rfl,rfl,Nat.le_refl _,hide (by simp[joinL])⟩
 case round=>
  obtain⟨k,r,hk,rfl,rfl,hr,HR⟩:=hrel
  by_cases hlt:k<ss.length
  ·obtain⟨b,off,rfl,hc⟩:=h.at hlt
   have hcell:=hc k hlt
   have hj:=ZiQ ss k hlt
   have hjl:=congrArg List.length hj
   rw[List.length_append,Zaa]at hjl
   have HJ:=hide hjl
   generalize ss.getD k ByteArray.empty=t at*
   have M:=Zex t.size r
   obtain⟨q,hq⟩:∃q,min t.size r=q:=⟨_,rfl⟩
   rw[hq]at M
   have esub:(r:Int)-(q:Int)=((r-q:Nat):Int):=by omega
   have hqr:q≤r:=by omega
   have hlt':(k:Int)<(ss.length:Int):=by omega
   have HR2:=hide (show r-q=n-(joinL (ss.take (k+1))).length by have:=unhide HR;have:=unhide HJ;omega)
   clear hc hj hjl hq h
   go_wp2
   go_round
   case rel=>exact⟨k+1,r-q,by omega,by go_num,by first|rfl|rw[esub],by omega,HR2⟩
   case measure=>simp[intOf];omega
  ·obtain rfl:k=ss.length:=by omega
   rw[List.take_length]at HR
   clear h
   go_wp2
   go_ret
   exact⟨ZaE (by rw[unhide HR]),rfl⟩
theorem ZxD(a:Option Addr)(l c:Nat)(ss:List ByteArray)(n:Nat)(w:World)(h:TextsAt w a l ss)(hl:l≤1048576)(hn:n≤1073741824)(hj:n≤(joinL ss).length):
  Calls Tryz.prog 188 #[.slice a l c,.int .i64 (n:Int)] w fun e w'=>e=.returned (.tuple #[.string (st ((joinL ss).take n)),.int .i64 0])∧Below w.heap.size w w':=by
 obtain rfl:=h.1
 have hlk:=Zl5 a ss.length c ss n w h hl (by omega)
 rw[show n-(joinL ss).length=0 by omega]at hlk
 have HL:=hide hlk
 have HG:=hide (ZkO w.heap.size w.heap.size n (w.alloc (.cells #[.pointer none,.slice none 0 0] 317)) (Nat.le_refl _) (ZuR w _) (by simp) hn)
 have hb0:Below w.heap.size w (w.alloc (.cells #[.pointer none,.slice none 0 0] 317)):=(Below.refl _ _).alloc (Nat.le_refl _) _
 have hnn:(0:Int)≤(n:Int):=by omega
 clear hlk
 go_enter Tryz.func188,Tryz.ntmps188
 go_wp2_with (first|(go_at_call 213;refine(unhide HL).mono ?_;rintro e w1 ⟨rfl,hw⟩;obtain rfl:=hw.symm)|(go_at_call 214;refine(unhide HG).mono ?_;rintro e w1 ⟨rfl,hB1,hb1⟩))
 have HB0:=hide hB1
 have HBB:=hide (hb0.trans hb1)
 clear hb0 hb1 hB1 HG HL
 go_loopw [21] (fun i wr=> ∃k:Nat,k≤ss.length∧i=.int .i64 k∧Hid (Bld wr w.heap.size w.heap.size ((joinL (ss.take k)).take n))∧Hid (Below w.heap.size w wr)) (fun i _=>ss.length-(intOf i).toNat)
 case atStart=>exact⟨0,Nat.zero_le _,rfl,hide (by simpa [joinL]using unhide HB0),HBB⟩
 case round=>
  obtain⟨k,hk,rfl,HO,HB⟩:=hrel
  clear HB0 HBB
  by_cases hlt:k<ss.length
  ·obtain⟨b,off,rfl,hc⟩:=(h.below (unhide HB)).at hlt
   have hcell:=hc k hlt
   have HT:=hide (ZiQ ss k hlt)
   generalize ss.getD k ByteArray.empty=t at*
   obtain⟨P,hP⟩:∃P,joinL (ss.take k)=P:=⟨_,rfl⟩
   rw[hP]at HO HT
   have hPl:(P.take n).length≤n:=List.length_take_le _ _
   obtain⟨q,hq⟩:∃q,(P.take n).length=q:=⟨_,rfl⟩
   have HLn:=hide (ZwZ w.heap.size w.heap.size (P.take n) _ (unhide HO))
   rw[hq]at HLn hPl
   have esub:(n:Int)-(q:Int)=((n-q:Nat):Int):=by omega
   have M:=Zex t.size (n-q)
   obtain⟨r,hr⟩:∃r,min t.size (n-q)=r:=⟨_,rfl⟩
   rw[hr]at M
   have hrt:r≤t.size:=by omega
   have hx1:(t.extract 0 r).size=r:=by rw[ByteArray.size_extract];omega
   have HW:=hide (Zr9 w.heap.size w.heap.size (P.take n) (t.extract 0 r) _ (unhide HO) (by rw[hq,hx1];omega) (unhide HB).size)
   have HE:=hide (show P.take n++tx (t.extract 0 r)=(joinL (ss.take (k+1))).take n by
    rw[unhide HT,List.take_append,ZcJ,List.drop_zero,Nat.sub_zero]
    congr 1
    rw[List.length_take]at hq
    by_cases hc:n≤P.length
    ·rw[show r=0 by omega,show n-P.length=0 by omega]
    ·by_cases hc2:t.size≤n-P.length
     ·rw[List.take_of_length_le (by rw[Zaa];omega),List.take_of_length_le (by rw[Zaa];omega)]
     ·rw[show r=n-P.length by omega])
   have hlt':(k:Int)<(ss.length:Int):=by omega
   clear hc hP hq hr hx1 HT
   go_wp2_with (first|(go_at_call 216;refine(unhide HLn).mono ?_;rintro e w1 ⟨rfl,hw⟩;obtain rfl:=hw.symm)|(go_at_call 215;refine(unhide HW).mono ?_;rintro e w2 ⟨rfl,hB2,hb2⟩))
   rw[unhide HE]at hB2
   have HB2:=hide hB2
   have HBB2:=hide ((unhide HB).trans hb2)
   clear hB2 hb2 HO HB
   go_wp2
   go_roundw
   case rel=>exact⟨k+1,by omega,by go_num,HB2,HBB2⟩
   case measure=>simp[intOf];omega
  ·obtain rfl:k=ss.length:=by omega
   rw[List.take_length]at HO
   have HS:=hide (Zou w.heap.size w.heap.size _ _ (unhide HO) (unhide HB).size)
   clear h HO
   go_wp2_with (go_at_call 217;refine(unhide HS).mono ?_;rintro e w1 ⟨rfl,hb1⟩)
   go_ret2
   exact⟨rfl,(unhide HB).trans hb1⟩
end Go.Proofs.YtlhhinlghhjghaaGreatDoor
namespace Go.Proofs.YtlhhinlghhjghaaGreatDoor
open Go.RowKit Go.Sort
set_option linter.unusedVariables false
set_option linter.unusedSimpArgs false
set_option maxRecDepth 4000
set_option maxHeartbeats 8000000
theorem Ztc(g B:Nat)(M:Int)(p:PKV)(w:World)(h:DcAt w g B M zDS g (.slice none 0 0) [])(hr:RowAt w p.r.a p.r.n p.r.xs)(hp:okB p=true):
  Calls Tryz.prog 78 #[.pointer (some ⟨g,0,none⟩),.agg #[.int .i64 p.o,.int .i64 p.l,.int .i64 p.k,.int .i64 p.z,.int .i64 p.h,.slice p.r.a p.r.n p.r.c,.string p.r.s]] w fun e w'=>
   e=.returned (.tuple #[])∧∃gs,DcAt w' g B M (begS zDS p) gs (.slice none 0 0) []∧Tu (fun j=>j=g) w w'∧w.heap.size≤gs:=by
 have hb0:=alloc_low w (.cells #[.int .i64 p.o,.int .i64 p.l,.int .i64 p.k,.int .i64 p.z,.int .i64 p.h,.slice p.r.a p.r.n p.r.c,.string p.r.s] 59)
 have hx:=Zag 59 w [.int .i64 p.o,.int .i64 p.l,.int .i64 p.k,.int .i64 p.z,.int .i64 p.h,.slice p.r.a p.r.n p.r.c,.string p.r.s]
 have HC:=hide (ZaR p.o p.l p.k p.z p.h p.r.a p.r.n p.r.c p.r.xs p.r.s _ (hr.below hb0) 0 (Zx2 hp))
 have hgw:=h.lt
 have hgne:w.heap.size≠g:=by omega
 have HD:=hide (h.below hb0)
 have hE:w.alloc (.cells [.int .i64 p.o,.int .i64 p.l,.int .i64 p.k,.int .i64 p.z,.int .i64 p.h,.slice p.r.a p.r.n p.r.c,.string p.r.s].toArray 59)=w.alloc (.cells #[.int .i64 p.o,.int .i64 p.l,.int .i64 p.k,.int .i64 p.z,.int .i64 p.h,.slice p.r.a p.r.n p.r.c,.string p.r.s] 59):=rfl
 rw[hE]at hx
 clear hE h hr
 generalize hW:w.alloc (.cells #[.int .i64 p.o,.int .i64 p.l,.int .i64 p.k,.int .i64 p.z,.int .i64 p.h,.slice p.r.a p.r.n p.r.c,.string p.r.s] 59)=W at*
 have HX:=hide hx
 have HB0:=hide hb0
 have q0:=hx.at 0 rfl
 have q1:=hx.at 1 rfl
 have q2:=hx.at 2 rfl
 have q3:=hx.at 3 rfl
 have q4:=hx.at 4 rfl
 have q5:=hx.at 5 rfl
 have q6:=hx.at 6 rfl
 clear hx hb0
 go_enter Tryz.func78,Tryz.ntmps78
 go_wp2_with fail
 refine(unhide HC).mono ?_
 rintro e w1 ⟨rfl,hb1⟩
 have hd1:=(unhide HD).below hb1
 have hx1:=(unhide HX).below hb1
 have HB1:=hide (below0 (unhide HB0) hb1)
 have d5:w1.cell? ⟨g,5,none⟩=some (.pointer none):=hd1.blk.at 5 rfl
 have HBG:=hide (ZpN g B M p w1 hd1 hp)
 have HX1:=hide hx1
 clear hb1 HC HB0 HX HD q0 q1 q2 q3 q4 q5 q6 hd1
 have q0:=hx1.at 0 rfl
 have q1:=hx1.at 1 rfl
 have q2:=hx1.at 2 rfl
 have q3:=hx1.at 3 rfl
 have q4:=hx1.at 4 rfl
 have q5:=hx1.at 5 rfl
 have q6:=hx1.at 6 rfl
 clear hx1
 have hgq:Tryz.prog.eqGuardType Tryz.prog.depth 176=false:=by kernel_rfl
 go_wp2_with (first|(go_at_call 132;refine(ZeW _ _).mono ?_;rintro e w2 ⟨rfl,hw⟩;obtain rfl:=hw.symm;clear hw)|(go_at_call 133;refine(unhide HBG).mono ?_;rintro e w3 ⟨rfl,gs,hd3,ht3,hl3⟩))
 have hx3:=(unhide HX1).tu ht3 hgne
 have hk3:BkA 179 w3 g [.int .i64 M,.int .i64 p.o,.int .i64 p.l,.int .i64 p.k,.int .i64 p.z,.pointer (some ⟨gs,0,none⟩),.bool false,.string ⟨#[]⟩]:=hd3.blk
 have HQ:=hide (fun wx (hb:Below w3.heap.size w3 wx)=>show _∧_ from⟨hk3.below hb,hx3.below hb⟩)
 have HT3:=hide (Tu.after (unhide HB1) ht3)
 have HD3:=hide hd3
 have HL3:=hide (Nat.le_trans (unhide HB1).size hl3)
 clear q0 q1 q2 q3 q4 q5 q6 d5 HBG HX1 HB1 ht3 hd3 hl3
 have q0:=hx3.at 0 rfl
 have q1:=hx3.at 1 rfl
 have q2:=hx3.at 2 rfl
 have q3:=hx3.at 3 rfl
 have q4:=hx3.at 4 rfl
 have q5:=hx3.at 5 rfl
 have q6:=hx3.at 6 rfl
 have d1:=hk3.at 1 rfl
 have d2:=hk3.at 2 rfl
 have d3:=hk3.at 3 rfl
 have d4:=hk3.at 4 rfl
 clear hx3 hk3
 have heq:∀W,(binOp .eql 176 (.agg #[.int .i64 p.o,.int .i64 p.l,.int .i64 p.k,.int .i64 p.z]) (.agg #[.int .i64 p.o,.int .i64 p.l,.int .i64 p.k,.int .i64 p.z])).run Tryz.prog W=.ok (.bool true) W:=fun W=>by
  rw[Zx8];simp
 go_region_held3 (fun w'=>w'.cell? ⟨w.heap.size,0,none⟩=some (.int .i64 p.o)∧w'.cell? ⟨w.heap.size,1,none⟩=some (.int .i64 p.l)∧w'.cell? ⟨w.heap.size,2,none⟩=some (.int .i64 p.k)∧w'.cell? ⟨w.heap.size,3,none⟩=some (.int .i64 p.z)∧w'.cell? ⟨w.heap.size,4,none⟩=some (.int .i64 p.h)∧w'.cell? ⟨w.heap.size,5,none⟩=some (.slice p.r.a p.r.n p.r.c)∧w'.cell? ⟨w.heap.size,6,none⟩=some (.string p.r.s)∧w'.cell? ⟨g,1,none⟩=some (.int .i64 p.o)∧w'.cell? ⟨g,2,none⟩=some (.int .i64 p.l)∧w'.cell? ⟨g,3,none⟩=some (.int .i64 p.k)∧w'.cell? ⟨g,4,none⟩=some (.int .i64 p.z)) (go_keep) (first
  |(go_at_call 134;refine(ZfH p.o p.l p.k p.z p.h (.slice p.r.a p.r.n p.r.c) (.string p.r.s) _).mono ?_;rintro e w4 ⟨rfl,hb4⟩;have D4:=hide (show Below w3.heap.size w3 w4 from below0 (Below.refl _ _).drew hb4);obtain⟨y1,y2⟩:=unhide HQ w4 (unhide D4);have r0:=y2.at 0 rfl;have r1:=y2.at 1 rfl;have r2:=y2.at 2 rfl;have r3:=y2.at 3 rfl;have r4:=y2.at 4 rfl;have r5:=y2.at 5 rfl;have r6:=y2.at 6 rfl;have e1:=y1.at 1 rfl;have e2:=y1.at 2 rfl;have e3:=y1.at 3 rfl;have e4:=y1.at 4 rfl;clear hb4 y1 y2)
  |(go_at_call 132;refine(ZeW _ _).mono ?_;rintro e w5 ⟨rfl,hw⟩;obtain rfl:=hw.symm;clear hw)
  |fail)
 all_goals (try go_wp2)
 all_goals go_end0
 all_goals exact⟨rfl,gs,(unhide HD3).below (unhide D4),(unhide HT3).then (unhide D4),unhide HL3⟩
theorem Zla{s:DS}{p:PKV}(h:s.bg=true):admB s p=(okB p&&Zk2 s p):=by
 unfold admB
 rw[h];rfl
theorem ZuT(g B:Nat)(M:Int)(s:DS)(gs:Nat)(v:Value)(rs:List RV)(p:PKV)(w:World)(h:DcAt w g B M s gs v rs)(hr:RowAt w p.r.a p.r.n p.r.xs)(hp:admB s p=false):
  Calls Tryz.prog 78 #[.pointer (some ⟨g,0,none⟩),.agg #[.int .i64 p.o,.int .i64 p.l,.int .i64 p.k,.int .i64 p.z,.int .i64 p.h,.slice p.r.a p.r.n p.r.c,.string p.r.s]] w fun e w'=>PanP e∧Below w.heap.size w w':=by
 cases ho:okB p
 ·exact ZtI g p w hr ho
 ·cases hg:s.bg
  ·unfold admB at hp
   rw[ho,hg]at hp
   cases hp
  ·rw[Zla hg,ho,Bool.true_and]at hp
   exact(ZjX g B M s gs v rs p w h hg hr ho).mono fun e w' ⟨h1,h2⟩=>⟨h1.2 hp,h2⟩
theorem ZuS(g B:Nat)(M:Int)(s:DS)(gs:Nat)(v:Value)(rs:List RV)(p:PKV)(w:World)(h:DcAt w g B M s gs v rs)(hr:RowAt w p.r.a p.r.n p.r.xs)(hp:admB s p=true):
  Calls Tryz.prog 78 #[.pointer (some ⟨g,0,none⟩),.agg #[.int .i64 p.o,.int .i64 p.l,.int .i64 p.k,.int .i64 p.z,.int .i64 p.h,.slice p.r.a p.r.n p.r.c,.string p.r.s]] w fun e w'=>e=.returned (.tuple #[])∧∃gs' v' rs',DcAt w' g B M (begS s p) gs' v' rs'∧Tu (dcF g gs v) w w'∧Mv w gs v gs' v':=by
 have ho:=(ZlM hp).1
 cases hg:s.bg
 ·obtain⟨rfl,rfl,rfl⟩:=h.fresh hg
  obtain rfl:rs=[]:=List.map_eq_nil_iff.1 h.co
  refine(Ztc gs B M p w h hr ho).mono ?_
  rintro e w' ⟨rfl,gs',h1,h2,h3⟩
  exact⟨rfl,gs',_,_,h1,⟨h2.os,h2.tape,h2.output,h2.size,fun k hk hn=>h2.block k hk fun e=>hn (.inl e)⟩,.inr h3,.inl rfl⟩
 ·rw[Zla hg,ho,Bool.true_and]at hp
  refine(ZjX g B M s gs v rs p w h hg hr ho).mono ?_
  rintro e w' ⟨h1,h2⟩
  have e1:begS s p=s:=by unfold begS;rw[if_pos hg]
  rw[e1]
  exact⟨h1.1 hp,gs,v,rs,h.below h2,Tu.of_below h2,Mv.refl _ _ _⟩
theorem ZgU(q:Addr)(x:Int)(u:TypeId)(pv:Value)(older:List PanicEntry)(w:World)(hc:w.cell? q=some (.int .i64 x))(hz:w.frozen? q=false):
  CallsD Tryz.prog 77 #[.pointer (some q)] (.panicking ({v:=.iface u pv,recovered:=false}::older)) w fun e u' w'=>
   e=.returned (.tuple #[])∧u'=.panicking ({v:=.iface u pv,recovered:=true}::older)∧w'=w.setCell q (.int .i64 1):=by
 refine callsD_of_wpS Tryz.func77 rfl fun c₀ cs hu=>?_
 apply wpS_seq
 apply wpS_region
 simp[wpOpsS,go_sem,recoverD,hu,Tryz.ntmps77,Exit.thenS]
 refine wpS_cond (t:=true) (by simp[Act.eval,Array.replicate]) ?_
 simp only[if_true]
 apply wpS_region
 simp[wpOpsS,go_sem,hc,hz,bodyPostS,results,Tryz.results77]
theorem Ziy(q:Addr)(w:World):
  CallsD Tryz.prog 77 #[.pointer (some q)] .returning w fun e u' w'=>e=.returned (.tuple #[])∧u'=.returning∧w'=w:=by
 refine callsD_of_wpS Tryz.func77 rfl fun c₀ cs hu=>?_
 apply wpS_seq
 apply wpS_region
 simp[wpOpsS,go_sem,recoverD,hu,Tryz.ntmps77,Exit.thenS]
 refine wpS_cond (t:=false) (by simp[Act.eval,Array.replicate]) ?_
 simp only[Bool.false_eq_true,if_false]
 refine wpS_of_wp (wp_skip ?_)
 cases c₀
 simp_all [bodyPostS,results,Tryz.results77]
theorem Zmq(K m:Nat)(a:Option Addr)(n c:Nat)(us:List RV)(w:World)(ht:Tab w)(hA:RowsAt w a n us)(hS:shortR us)(hn:n≤300)(hK:1≤K∧K≤128)(hm:m≤64)(hv:∀x∈us.map core,fitB (K:Int) (m:Int) x=true)(hk:ZcB (us.map core)=K):
  Calls Tryz.prog 186 #[.int .i64 (K:Int),.slice a n c] w fun e w'=> ∃a1 m1 c1 ss,e=.returned (.tuple #[.slice a1 m1 c1,.bool true])∧TextsAt w' a1 m1 ss∧m1≤1048576∧(joinL ss).length=K*m∧(∀l:Int,ObjP (K:Int) l (us.map core) (st ((joinL ss).take l.toNat)))∧Below w.heap.size w w':=by
 have hg:=ZmL hA hS
 have hl:=Zyf hA hS
 have hn2:us.length≤300:=by rw[hA.1];exact hn
 obtain⟨kn,bs,hP⟩:=ZzK (k:=(K:Int)) hg
 have hvv:∀r∈us,Zaj (K:Int) r.xs=true∧r.s.size=m:=fun r hr=>by
  have:=hv (core r) (List.mem_map.2 ⟨r,hr,rfl⟩)
  unfold fitB at this
  rw[Bool.and_eq_true,Bool.and_eq_true]at this
  have h2:=decide_eq_true_iff.1 this.2
  exact⟨this.1.1,by have:(r.s.size:Int)=(m:Int):=h2;omega⟩
 have hz:0<sizeOfK (K:Int):=by
  unfold sizeOfK
  rw[if_neg (by omega)]
  omega
 obtain⟨h1,h2,h3⟩:=Zra hP hg hl hn2 hz (fun r hr=>(hvv r hr).1) (fun r hr=>(hvv r hr).2) hk
 refine(Zpp (K:Int) a n c us kn bs hP w ht hA hS hn).mono ?_
 rintro e w' ⟨a1,m1,c1,rfl,ho,hb⟩
 rw[h1]
 obtain⟨e1,e2⟩:=ho.at'
 rw[←e1]at e2
 exact⟨a1,m1,c1,_,rfl,e2,by omega,by rw[Zie h3,h2],fun l=>⟨us,kn,bs,rfl,hP,rfl⟩,hb⟩
theorem Zp5(g gs B:Nat)(M:Int)(s:DS)(m:Nat)(v:Value)(rs:List RV)(ov:Bool)(w:World)(ht:∀wx,Below w.heap.size w wx→Tab wx)(hb:BkA 179 w g (decC M s (some ⟨gs,0,none⟩)))(hs:StAt w gs B s.k s.z m v rs ov)(hI:DInv s)(hf:∀x∈rs.map core,fitB s.k s.z x=true)(hk:(ZcB (rs.map core):Int)=s.k):
  Calls Tryz.prog 136 #[.pointer (some ⟨g,0,none⟩)] w fun e w'=> ∃ob,e=.returned (.string ob)∧ObjP s.k s.l (rs.map core) ob∧Below w.heap.size w w':=by
 obtain⟨⟨⟨k1,k2⟩,z1,z2⟩,l1,l2⟩:=hI.sh
 have hlz:=hI.lz
 obtain⟨K,hK⟩:∃K:Nat,s.k=(K:Int):=⟨s.k.toNat,by omega⟩
 obtain⟨Z,hZ⟩:∃Z:Nat,s.z=(Z:Int):=⟨s.z.toNat,by omega⟩
 obtain⟨N,hN⟩:∃N:Nat,s.l=(N:Int):=⟨s.l.toNat,by omega⟩
 rw[hK,hZ]at hf
 rw[hK]at hk
 have HOBJ:=hide (show∀ob,ObjP (K:Int) (N:Int) (rs.map core) ob→ObjP s.k s.l (rs.map core) ob from fun ob h=>by rw[hK,hN];exact h)
 have hle:N≤K*Z:=by rw[hK,hZ,hN]at l2;exact_mod_cast l2
 have hN2:N≤8192:=by omega
 have hsi:=hs.rows.rows
 have hsr:=hs.short
 have hll:=hs.le
 have hlm:=hs.most
 have HR:=hide (fun wx (hb:Below w.heap.size w wx)=>Zv5 gs B s.k s.z m v rs ov wx (hs.below hb))
 have HD:=hide (fun(a:Option Addr) (n c:Nat) (us:List RV) wx (hb:Below w.heap.size w wx) (hA:RowsAt wx a n us) (hS:shortR us) (he:us.map core=rs.map core) (hn:n≤300)=>Zmq K Z a n c us wx (ht wx hb) hA hS hn (by omega) (by omega) (by rw[he];exact hf) (by rw[he];omega))
 have HQ:=hide (fun wx (hb':Below w.heap.size w wx)=>hb.below hb')
 have HSI:=hide hsi
 have HSR:=hide hsr
 have d2:=hb.at 2 rfl
 have d3:=hb.at 3 rfl
 have d5:=hb.at 5 rfl
 rw[hK]at d3
 rw[hN]at d2
 have HK:=hide hK
 have HN:=hide hN
 clear ht hb hs hI hf hk hK hZ hN l1 l2 k1 k2 z1 z2 hlz hsi hsr
 have hlen:rs.length≤256:=Nat.le_trans hll hlm
 clear hll hlm
 go_enter Tryz.func136,Tryz.ntmps136
 go_wp2_with fail
 go_region_held3 (fun w'=>w'.cell? ⟨g,2,none⟩=some (.int .i64 (N:Int))∧w'.cell? ⟨g,3,none⟩=some (.int .i64 (K:Int))∧w'.cell? ⟨g,5,none⟩=some (.pointer (some ⟨gs,0,none⟩))) (go_keep) (first
  |(go_at_call 187;refine(unhide HR _ (Below.refl _ _).drew).mono ?_;rintro e w1 ⟨b1,c1,us,rfl,ho1,hr1,he1,hb1⟩;have D1:=hide (show Below w.heap.size w w1 from below0 (Below.refl _ _).drew hb1);have hat:=OutP.at ho1 hr1 he1 (unhide HSI) (unhide HSR);have HDC:=hide (unhide HD (some ⟨b1,0,none⟩) rs.length c1 us w1 (unhide D1) hat.1 hat.2.2.1 he1 (by omega));have HE1:=hide he1;have y1:=unhide HQ w1 (unhide D1);have e2:=y1.at 2 rfl;have e3:=y1.at 3 rfl;have e5:=y1.at 5 rfl;rw[unhide HK]at e3;rw[unhide HN]at e2;clear ho1 hr1 he1 hb1 hat y1)
  |(go_at_call 186;refine(unhide HDC).mono ?_;rintro e w2 ⟨a2,m2,c2,ss,rfl,ht2,hm2,hj2,ho2,hb2⟩;have D2:=hide (show Below w.heap.size w w2 from below0 (unhide D1) hb2);have HJ2:=hide (ZxD a2 m2 c2 ss N w2 ht2 hm2 (by omega) (by rw[hj2];exact hle));have HO2:=hide (show ObjP (K:Int) (N:Int) (rs.map core) (st ((joinL ss).take N)) from by have:=ho2 (N:Int);rw[unhide HE1,Int.toNat_natCast]at this;exact this);have y2:=unhide HQ w2 (unhide D2);have e2:=y2.at 2 rfl;have e3:=y2.at 3 rfl;have e5:=y2.at 5 rfl;rw[unhide HK]at e3;rw[unhide HN]at e2;clear ht2 hm2 hj2 ho2 hb2 y2)
  |fail)
 generalize st ((joinL ss).take N)=ob at*
 go_wp2_with (first
  |(go_at_call 132;refine(ZeW _ _).mono ?_;rintro e w5 ⟨rfl,hw⟩;obtain rfl:=hw.symm;clear hw)
  |(go_at_call 188;refine(unhide HJ2).mono ?_;rintro e w3 ⟨rfl,hb3⟩;have D3:=hide (below0 (unhide D2) hb3);clear hb3))
 go_ret
 exact⟨ob,rfl,unhide HOBJ ob (unhide HO2),unhide D3⟩
end Go.Proofs.YtlhhinlghhjghaaGreatDoor
